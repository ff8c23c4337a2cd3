import Derived.Test.YtkoghdgfllichaaDoorREA
namespace Go.Proofs.YtkoghdgfllichaaDoor

/-! Products of powers of the six primes, by their exponents. -/
structure V6 where
  a : Int
  b : Int
  c : Int
  d : Int
  e : Int
  f : Int
theorem V6.eq {u v : V6} (h1 : u.a = v.a) (h2 : u.b = v.b) (h3 : u.c = v.c) (h4 : u.d = v.d) (h5 : u.e = v.e) (h6 : u.f = v.f) : u = v := by
  cases u; cases v; simp only at h1 h2 h3 h4 h5 h6; subst h1 h2 h3 h4 h5 h6; rfl
def ps6 : List Nat := [2, 3, 5, 7, 11, 13]
def V6.l (v : V6) : List Int := [v.a, v.b, v.c, v.d, v.e, v.f]
def V6.zl (v : V6) : List (Nat × Int) := ps6.zip v.l
def V6.add (u v : V6) : V6 := ⟨u.a + v.a, u.b + v.b, u.c + v.c, u.d + v.d, u.e + v.e, u.f + v.f⟩
def V6.scl (k : Int) (v : V6) : V6 := ⟨k * v.a, k * v.b, k * v.c, k * v.d, k * v.e, k * v.f⟩
def V6.two (v : V6) (x : Int) : V6 := ⟨v.a + x, v.b, v.c, v.d, v.e, v.f⟩
def Sg (v : V6) : Int := sgnP v.zl
theorem zip_add : ∀ (ps : List Nat) (v w : List Int), v.length = ps.length → w.length = ps.length → eqvP (ps.zip (List.zipWith (· + ·) v w)) (ps.zip v ++ ps.zip w)
  | [], _, _, _, _ => by simp [eqvP, upP, dnP]
  | p :: ps, a :: v, b :: w, h1, h2 => by
    have ih := zip_add ps v w (by simpa using h1) (by simpa using h2)
    unfold eqvP at ih ⊢
    rw [upP_append, dnP_append] at ih ⊢
    show p ^ (a + b).toNat * upP (ps.zip (List.zipWith (· + ·) v w)) * (p ^ (-a).toNat * dnP (ps.zip v) * (p ^ (-b).toNat * dnP (ps.zip w))) =
      p ^ (-(a + b)).toNat * dnP (ps.zip (List.zipWith (· + ·) v w)) * (p ^ a.toNat * upP (ps.zip v) * (p ^ b.toNat * upP (ps.zip w)))
    have e : p ^ (a + b).toNat * p ^ (-a).toNat * p ^ (-b).toNat = p ^ (-(a + b)).toNat * p ^ a.toNat * p ^ b.toNat := by
      rw [← Nat.pow_add, ← Nat.pow_add, ← Nat.pow_add, ← Nat.pow_add]; congr 1; omega
    generalize upP (ps.zip (List.zipWith (· + ·) v w)) = U at *
    generalize dnP (ps.zip (List.zipWith (· + ·) v w)) = D at *
    have e1 : p ^ (a + b).toNat * U * (p ^ (-a).toNat * dnP (ps.zip v) * (p ^ (-b).toNat * dnP (ps.zip w))) = p ^ (a + b).toNat * p ^ (-a).toNat * p ^ (-b).toNat * (U * (dnP (ps.zip v) * dnP (ps.zip w))) := by ac_rfl
    have e2 : p ^ (-(a + b)).toNat * D * (p ^ a.toNat * upP (ps.zip v) * (p ^ b.toNat * upP (ps.zip w))) = p ^ (-(a + b)).toNat * p ^ a.toNat * p ^ b.toNat * (D * (upP (ps.zip v) * upP (ps.zip w))) := by ac_rfl
    rw [e1, e2, e, ih]
theorem mul_toNat (k : Nat) (a : Int) : ((k : Int) * a).toNat = a.toNat * k := by
  rcases Int.le_total 0 a with h | h
  · obtain ⟨n, rfl⟩ := Int.eq_ofNat_of_zero_le h
    rw [← Int.natCast_mul, Int.toNat_natCast, Int.toNat_natCast, Nat.mul_comm]
  · rw [show a.toNat = 0 by omega, Nat.zero_mul]
    have := Int.mul_le_mul_of_nonneg_left h (Int.natCast_nonneg k)
    omega
theorem zip_scl (k : Nat) : ∀ (ps : List Nat) (v : List Int), upP (ps.zip (v.map ((k : Int) * ·))) = upP (ps.zip v) ^ k ∧ dnP (ps.zip (v.map ((k : Int) * ·))) = dnP (ps.zip v) ^ k
  | [], _ => by simp [upP, dnP]
  | p :: ps, [] => by simp [upP, dnP]
  | p :: ps, a :: v => by
    obtain ⟨h1, h2⟩ := zip_scl k ps v
    constructor
    · show p ^ ((k : Int) * a).toNat * upP (ps.zip (v.map ((k : Int) * ·))) = (p ^ a.toNat * upP (ps.zip v)) ^ k
      rw [h1, mul_toNat, Nat.pow_mul, Nat.mul_pow]
    · show p ^ (-((k : Int) * a)).toNat * dnP (ps.zip (v.map ((k : Int) * ·))) = (p ^ (-a).toNat * dnP (ps.zip v)) ^ k
      rw [h2, show -((k : Int) * a) = (k : Int) * (-a) by rw [Int.mul_neg], mul_toNat, Nat.pow_mul, Nat.mul_pow]
theorem zip_neg : ∀ (ps : List Nat) (v : List Int), upP (ps.zip (v.map (-·))) = dnP (ps.zip v) ∧ dnP (ps.zip (v.map (-·))) = upP (ps.zip v)
  | [], _ => by simp [upP, dnP]
  | p :: ps, [] => by simp [upP, dnP]
  | p :: ps, a :: v => by
    obtain ⟨h1, h2⟩ := zip_neg ps v
    constructor
    · show p ^ (-a).toNat * upP (ps.zip (v.map (-·))) = _
      rw [h1]; rfl
    · show p ^ (- -a).toNat * dnP (ps.zip (v.map (-·))) = _
      rw [h2, Int.neg_neg]; rfl
theorem zip_pos : ∀ (ps : List Nat) (v : List Int), (∀ p ∈ ps, 1 ≤ p) → posN (ps.zip v)
  | _, _, h => fun x hx => h x.1 (List.of_mem_zip hx).1
theorem V6.pos (v : V6) : posN v.zl := zip_pos _ _ (by decide)
theorem sgn_mul_ge {l u v : List (Nat × Int)} (hl : posN l) (hu : posN u) (hv : posN v) (h : eqvP l (u ++ v)) (h1 : 0 ≤ sgnP u) (h2 : 0 ≤ sgnP v) : 0 ≤ sgnP l := by
  rw [h.sgn hl (posN_append.2 ⟨hu, hv⟩)]
  rw [sgn_ge] at *
  rw [upP_append, dnP_append]
  exact Nat.mul_le_mul h1 h2
theorem sgn_mul_lt {l u v : List (Nat × Int)} (hl : posN l) (hu : posN u) (hv : posN v) (h : eqvP l (u ++ v)) (h1 : sgnP u < 0) (h2 : sgnP v ≤ 0) : sgnP l < 0 := by
  rw [h.sgn hl (posN_append.2 ⟨hu, hv⟩)]
  have h3 : upP v ≤ dnP v := by
    rcases Nat.lt_or_ge (dnP v) (upP v) with h3 | h3
    · rw [sgn_up h3] at h2; omega
    · exact h3
  rw [sgn_lt] at *
  rw [upP_append, dnP_append]
  exact Nat.mul_lt_mul_of_lt_of_le h1 h3 (dnP_pos' hv)
theorem sgn_cases (l : List (Nat × Int)) : sgnP l = 1 ∨ sgnP l = 0 ∨ sgnP l = -1 := by
  unfold sgnP
  split
  · exact .inr (.inl rfl)
  · split
    · exact .inl rfl
    · exact .inr (.inr rfl)
theorem Sg_cases (v : V6) : Sg v = 1 ∨ Sg v = 0 ∨ Sg v = -1 := sgn_cases _
theorem add_eqv (u v : V6) : eqvP (u.add v).zl (u.zl ++ v.zl) := zip_add ps6 u.l v.l rfl rfl
theorem Sg_add_ge {u v : V6} (h1 : 0 ≤ Sg u) (h2 : 0 ≤ Sg v) : 0 ≤ Sg (u.add v) := sgn_mul_ge (V6.pos _) u.pos v.pos (add_eqv u v) h1 h2
theorem Sg_add_lt {u v : V6} (h1 : Sg u < 0) (h2 : Sg v ≤ 0) : Sg (u.add v) < 0 := sgn_mul_lt (V6.pos _) u.pos v.pos (add_eqv u v) h1 h2
theorem Sg_neg (v : V6) : Sg (V6.scl (-1) v) = -Sg v := by
  have e : (V6.scl (-1) v).zl = ps6.zip (v.l.map (-·)) := by
    unfold V6.zl V6.scl V6.l
    simp only [List.map_cons, List.map_nil, Int.neg_one_mul]
  obtain ⟨h1, h2⟩ := zip_neg ps6 v.l
  unfold Sg
  rw [e]
  unfold sgnP
  rw [h1, h2]
  show _ = -(if upP (ps6.zip v.l) = dnP (ps6.zip v.l) then 0 else if dnP (ps6.zip v.l) < upP (ps6.zip v.l) then 1 else -1)
  by_cases h3 : upP (ps6.zip v.l) = dnP (ps6.zip v.l)
  · rw [if_pos h3, if_pos h3.symm]; rfl
  · rw [if_neg h3, if_neg (Ne.symm h3)]
    by_cases h4 : dnP (ps6.zip v.l) < upP (ps6.zip v.l)
    · rw [if_pos h4, if_neg (by omega)]
    · rw [if_neg h4, if_pos (by omega)]; rfl
theorem Sg_add_gt {u v : V6} (h1 : 0 < Sg u) (h2 : 0 ≤ Sg v) : 0 < Sg (u.add v) := by
  have h3 := Sg_add_lt (u := V6.scl (-1) u) (v := V6.scl (-1) v) (by rw [Sg_neg]; omega) (by rw [Sg_neg]; omega)
  have e : (V6.scl (-1) u).add (V6.scl (-1) v) = V6.scl (-1) (u.add v) := by
    unfold V6.add V6.scl
    apply V6.eq <;> simp only <;> omega
  rw [e, Sg_neg] at h3
  omega
theorem Sg_add_eq {u v : V6} (h1 : Sg u = 0) (h2 : Sg v = 0) : Sg (u.add v) = 0 := by
  have h3 := Sg_add_ge (u := u) (v := v) (by omega) (by omega)
  have h4 := Sg_add_ge (u := V6.scl (-1) u) (v := V6.scl (-1) v) (by rw [Sg_neg]; omega) (by rw [Sg_neg]; omega)
  have e : (V6.scl (-1) u).add (V6.scl (-1) v) = V6.scl (-1) (u.add v) := by
    unfold V6.add V6.scl
    apply V6.eq <;> simp only <;> omega
  rw [e, Sg_neg] at h4
  omega
theorem pow_lt_iff' {a b k : Nat} (hk : 0 < k) : a ^ k < b ^ k ↔ a < b := by
  constructor
  · exact pow_lt_of
  · intro h; exact Nat.pow_lt_pow_left h (by omega)
theorem sgn_pow {l l' : List (Nat × Int)} {k : Nat} (hk : 0 < k) (h1 : upP l' = upP l ^ k) (h2 : dnP l' = dnP l ^ k) : sgnP l' = sgnP l := by
  unfold sgnP
  rw [h1, h2]
  have e : (upP l ^ k = dnP l ^ k) ↔ upP l = dnP l := by
    constructor
    · intro h
      rcases Nat.lt_trichotomy (upP l) (dnP l) with h3 | h3 | h3
      · have := (pow_lt_iff' hk).2 h3; omega
      · exact h3
      · have := (pow_lt_iff' hk).2 h3; omega
    · intro h; rw [h]
  by_cases h3 : upP l = dnP l
  · rw [if_pos h3, if_pos (e.2 h3)]
  · rw [if_neg h3, if_neg (fun h => h3 (e.1 h))]
    by_cases h4 : dnP l < upP l
    · rw [if_pos h4, if_pos ((pow_lt_iff' hk).2 h4)]
    · rw [if_neg h4, if_neg (fun h => h4 ((pow_lt_iff' hk).1 h))]
theorem Sg_scl (k : Int) (v : V6) (hk : 0 < k) : Sg (V6.scl k v) = Sg v := by
  obtain ⟨n, rfl⟩ := Int.eq_ofNat_of_zero_le (Int.le_of_lt hk)
  obtain ⟨h1, h2⟩ := zip_scl n ps6 v.l
  exact sgn_pow (k := n) (by omega) h1 h2
/-- The exponents in a list of any order and with parts left out. -/
def nz (l : List (Nat × Int)) : List (Nat × Int) := l.filter fun x => x.2 != 0
theorem nz_P : ∀ l, upP (nz l) = upP l ∧ dnP (nz l) = dnP l
  | [] => ⟨rfl, rfl⟩
  | x :: r => by
    obtain ⟨h1, h2⟩ := nz_P r
    by_cases h : x.2 = 0
    · have e : nz (x :: r) = nz r := by unfold nz; rw [List.filter_cons, if_neg (by simp [h])]
      rw [e, h1, h2]
      constructor
      · show _ = x.1 ^ x.2.toNat * upP r; rw [h]; simp
      · show _ = x.1 ^ (-x.2).toNat * dnP r; rw [h]; simp
    · have e : nz (x :: r) = x :: nz r := by unfold nz; rw [List.filter_cons, if_pos (by simp [h])]
      rw [e]
      constructor
      · show x.1 ^ x.2.toNat * upP (nz r) = x.1 ^ x.2.toNat * upP r; rw [h1]
      · show x.1 ^ (-x.2).toNat * dnP (nz r) = x.1 ^ (-x.2).toNat * dnP r; rw [h2]
def scL (s : Int) (l : List (Nat × Int)) : List (Nat × Int) := l.map fun x => (x.1, x.2 * s)
theorem scL_P (s : Nat) : ∀ l, upP (scL s l) = upP l ^ s ∧ dnP (scL s l) = dnP l ^ s
  | [] => by simp [scL, upP, dnP]
  | x :: r => by
    obtain ⟨h1, h2⟩ := scL_P s r
    constructor
    · show x.1 ^ (x.2 * (s : Int)).toNat * upP (scL s r) = (x.1 ^ x.2.toNat * upP r) ^ s
      rw [h1, Int.mul_comm, mul_toNat, Nat.pow_mul, Nat.mul_pow]
    · show x.1 ^ (-(x.2 * (s : Int))).toNat * dnP (scL s r) = (x.1 ^ (-x.2).toNat * dnP r) ^ s
      rw [h2, ← Int.neg_mul, Int.mul_comm, mul_toNat, Nat.pow_mul, Nat.mul_pow]
/-- The sign that Floor asks for, at m. -/
def Fl (v : V6) (s d m : Int) : Int := Sg ((V6.scl s v).two (-(m * d)))
theorem two_eqv (v : V6) (x : Int) : eqvP (v.two x).zl (v.zl ++ [(2, x)]) := by
  have h := zip_add ps6 v.l [x, 0, 0, 0, 0, 0] rfl rfl
  have e : ps6.zip (List.zipWith (· + ·) v.l [x, 0, 0, 0, 0, 0]) = (v.two x).zl := by
    unfold V6.zl V6.two V6.l
    simp only [List.zipWith_cons_cons, List.zipWith_nil_right, Int.add_zero]
  rw [e] at h
  unfold eqvP at h ⊢
  rw [upP_append, dnP_append] at h ⊢
  have e1 : upP (ps6.zip [x, 0, 0, 0, 0, 0]) = upP [(2, x)] := by simp [ps6, upP]
  have e2 : dnP (ps6.zip [x, 0, 0, 0, 0, 0]) = dnP [(2, x)] := by simp [ps6, dnP]
  rw [e1, e2] at h
  exact h
theorem Fl_of (v : V6) (s d m : Int) (hs : 0 < s) : sgnP (scL s (nz v.zl) ++ [(2, -(m * d))]) = Fl v s d m := by
  obtain ⟨n, rfl⟩ := Int.eq_ofNat_of_zero_le (Int.le_of_lt hs)
  have h := two_eqv (V6.scl n v) (-(m * d))
  have hp : posN ((V6.scl n v).zl ++ [(2, -(m * d))]) := posN_append.2 ⟨V6.pos _, fun x hx => by rw [List.mem_singleton] at hx; subst hx; show 1 ≤ 2; omega⟩
  unfold Fl Sg
  rw [h.sgn (V6.pos _) hp]
  unfold sgnP
  rw [upP_append, dnP_append, upP_append, dnP_append, (scL_P n _).1, (scL_P n _).2, (nz_P _).1, (nz_P _).2]
  obtain ⟨h1, h2⟩ := zip_scl n ps6 v.l
  have h1 : upP (V6.scl n v).zl = upP v.zl ^ n := h1
  have h2 : dnP (V6.scl n v).zl = dnP v.zl ^ n := h2
  rw [h1, h2]
/-- m is the floor. -/
def FlIs (v : V6) (s d m : Int) : Prop := 0 ≤ Fl v s d m ∧ Fl v s d (m + 1) < 0
theorem Sg_two {v : V6} {x : Int} (hx : 0 ≤ x) (h : 0 ≤ Sg v) : 0 ≤ Sg (v.two x) := by
  have h2 : 0 ≤ Sg ⟨x, 0, 0, 0, 0, 0⟩ := by
    unfold Sg
    rw [sgn_ge]
    show 2 ^ (-x).toNat * 1 ≤ 2 ^ x.toNat * 1
    rw [show (-x).toNat = 0 by omega]
    simp [Nat.one_le_two_pow]
  have h3 := Sg_add_ge h h2
  have e : v.add ⟨x, 0, 0, 0, 0, 0⟩ = v.two x := by
    unfold V6.add V6.two
    simp only [Int.add_zero]
  rw [e] at h3
  exact h3
theorem Fl_anti {v : V6} {s d : Int} (hd : 0 < d) {a b : Int} (h : a ≤ b) (hb : 0 ≤ Fl v s d b) : 0 ≤ Fl v s d a := by
  have h1 : 0 ≤ (b - a) * d := Int.mul_nonneg (by omega) (by omega)
  have h2 := Sg_two h1 hb
  have e : ((V6.scl s v).two (-(b * d))).two ((b - a) * d) = (V6.scl s v).two (-(a * d)) := by
    unfold V6.two
    apply V6.eq <;> simp only
    grind
  rw [e] at h2
  exact h2
theorem FlIs.unique {v : V6} {s d m k : Int} (hd : 0 < d) (h1 : FlIs v s d m) (h2 : FlIs v s d k) : m = k :=
  floor_one (f := Fl v s d) (fun _ _ => Fl_anti hd) h1.1 h1.2 h2.1 h2.2
theorem FlIs.le {v : V6} {s d m k : Int} (hd : 0 < d) (h1 : FlIs v s d m) (h2 : 0 ≤ Fl v s d k) : k ≤ m := by
  rcases Int.lt_or_le m k with h | h
  · have := Fl_anti hd (show m + 1 ≤ k by omega) h2
    have := h1.2
    omega
  · exact h
/-- Floors of a product. -/
theorem FlIs.mul {x y z : V6} {s da db dz D m n t : Int} (hda : 0 < da) (hdb : 0 < db) (hdz : 0 < dz) (hD : 0 < D) (hz : V6.scl D z = (V6.scl db x).add (V6.scl da y)) (hd : D * dz = da * db)
    (h1 : FlIs x s da m) (h2 : FlIs y s db n) (h3 : FlIs z s dz t) : (t = m + n ∨ t = m + n + 1) ∧ (Fl x s da m = 0 → Fl y s db n = 0 → Fl z s dz t = 0 ∧ t = m + n) := by
  obtain ⟨x1, x2⟩ := h1
  obtain ⟨y1, y2⟩ := h2
  have key : ∀ p q : Int, V6.scl D ((V6.scl s z).two (-((p + q) * dz))) = (V6.scl db ((V6.scl s x).two (-(p * da)))).add (V6.scl da ((V6.scl s y).two (-(q * db)))) := by
    intro p q
    unfold V6.scl V6.add at hz
    have a1 := congrArg V6.a hz
    have a2 := congrArg V6.b hz
    have a3 := congrArg V6.c hz
    have a4 := congrArg V6.d hz
    have a5 := congrArg V6.e hz
    have a6 := congrArg V6.f hz
    simp only at a1 a2 a3 a4 a5 a6
    unfold V6.scl V6.add V6.two
    apply V6.eq <;> simp only <;> grind
  have e1 : 0 ≤ Fl z s dz (m + n) := by
    have h := Sg_add_ge (u := V6.scl db ((V6.scl s x).two (-(m * da)))) (v := V6.scl da ((V6.scl s y).two (-(n * db)))) (by rw [Sg_scl _ _ hdb]; exact x1) (by rw [Sg_scl _ _ hda]; exact y1)
    rw [← key, Sg_scl _ _ hD] at h
    exact h
  have e2 : Fl z s dz (m + 1 + (n + 1)) < 0 := by
    have h := Sg_add_lt (u := V6.scl db ((V6.scl s x).two (-((m + 1) * da)))) (v := V6.scl da ((V6.scl s y).two (-((n + 1) * db)))) (by rw [Sg_scl _ _ hdb]; exact x2) (by rw [Sg_scl _ _ hda]; exact Int.le_of_lt y2)
    rw [← key, Sg_scl _ _ hD] at h
    exact h
  have l1 := h3.le hdz e1
  have l2 : t < m + 1 + (n + 1) := by
    rcases Int.lt_or_le t (m + 1 + (n + 1)) with h | h
    · exact h
    · have := Fl_anti hdz h h3.1; omega
  refine ⟨by omega, fun z1 z2 => ?_⟩
  have e3 : Fl z s dz (m + n) = 0 := by
    have h := Sg_add_eq (u := V6.scl db ((V6.scl s x).two (-(m * da)))) (v := V6.scl da ((V6.scl s y).two (-(n * db)))) (by rw [Sg_scl _ _ hdb]; exact z1) (by rw [Sg_scl _ _ hda]; exact z2)
    rw [← key, Sg_scl _ _ hD] at h
    exact h
  have e4 : Fl z s dz (m + n + 1) < 0 := by
    have h := Sg_add_lt (u := V6.scl da ((V6.scl s y).two (-((n + 1) * db)))) (v := V6.scl db ((V6.scl s x).two (-(m * da)))) (by rw [Sg_scl _ _ hda]; exact y2) (by rw [Sg_scl _ _ hdb]; show Fl x s da m ≤ 0; omega)
    have e : (V6.scl da ((V6.scl s y).two (-((n + 1) * db)))).add (V6.scl db ((V6.scl s x).two (-(m * da)))) = (V6.scl db ((V6.scl s x).two (-(m * da)))).add (V6.scl da ((V6.scl s y).two (-((n + 1) * db)))) := by
      unfold V6.add
      apply V6.eq <;> simp only <;> omega
    rw [e, ← key, Sg_scl _ _ hD, show m + (n + 1) = m + n + 1 by omega] at h
    exact h
  have et : t = m + n := h3.unique hdz ⟨by omega, e4⟩
  exact ⟨by rw [et]; exact e3, et⟩
/-- Floors of greater ratios. -/
theorem FlIs.cmp {x y : V6} {s da db m n : Int} (hs : 0 < s) (hda : 0 < da) (hdb : 0 < db) (h1 : FlIs x s da m) (h2 : FlIs y s db n) (h : 0 ≤ Sg ((V6.scl db x).add (V6.scl (-1) (V6.scl da y)))) : n ≤ m := by
  refine h1.le hda ?_
  have h3 := Sg_add_ge (u := V6.scl s ((V6.scl db x).add (V6.scl (-1) (V6.scl da y)))) (v := V6.scl da ((V6.scl s y).two (-(n * db)))) (by rw [Sg_scl _ _ hs]; exact h) (by rw [Sg_scl _ _ hda]; exact h2.1)
  have e : (V6.scl s ((V6.scl db x).add (V6.scl (-1) (V6.scl da y)))).add (V6.scl da ((V6.scl s y).two (-(n * db)))) = V6.scl db ((V6.scl s x).two (-(n * da))) := by
    unfold V6.scl V6.add V6.two
    apply V6.eq <;> simp only <;> grind
  rw [e, Sg_scl _ _ hdb] at h3
  exact h3
theorem FlIs.same {x y : V6} {s da db m n : Int} (hs : 0 < s) (hda : 0 < da) (hdb : 0 < db) (h1 : FlIs x s da m) (h2 : FlIs y s db n) (h : Sg ((V6.scl db x).add (V6.scl (-1) (V6.scl da y))) = 0) : m = n ∧ (Fl x s da m = 0 ↔ Fl y s db n = 0) := by
  have h' : Sg ((V6.scl da y).add (V6.scl (-1) (V6.scl db x))) = 0 := by
    have e : (V6.scl da y).add (V6.scl (-1) (V6.scl db x)) = V6.scl (-1) ((V6.scl db x).add (V6.scl (-1) (V6.scl da y))) := by
      unfold V6.scl V6.add
      apply V6.eq <;> simp only <;> grind
    rw [e, Sg_neg]; omega
  have a1 := FlIs.cmp hs hda hdb h1 h2 (by omega)
  have a2 := FlIs.cmp hs hdb hda h2 h1 (by omega)
  have em : m = n := by omega
  subst em
  refine ⟨rfl, ?_, ?_⟩
  · intro z
    have h3 := Sg_add_eq (u := V6.scl s ((V6.scl da y).add (V6.scl (-1) (V6.scl db x)))) (v := V6.scl db ((V6.scl s x).two (-(m * da)))) (by rw [Sg_scl _ _ hs]; exact h') (by rw [Sg_scl _ _ hdb]; exact z)
    have e : (V6.scl s ((V6.scl da y).add (V6.scl (-1) (V6.scl db x)))).add (V6.scl db ((V6.scl s x).two (-(m * da)))) = V6.scl da ((V6.scl s y).two (-(m * db))) := by
      unfold V6.scl V6.add V6.two
      apply V6.eq <;> simp only <;> grind
    rw [e, Sg_scl _ _ hda] at h3
    exact h3
  · intro z
    have h3 := Sg_add_eq (u := V6.scl s ((V6.scl db x).add (V6.scl (-1) (V6.scl da y)))) (v := V6.scl da ((V6.scl s y).two (-(m * db)))) (by rw [Sg_scl _ _ hs]; exact h) (by rw [Sg_scl _ _ hda]; exact z)
    have e : (V6.scl s ((V6.scl db x).add (V6.scl (-1) (V6.scl da y)))).add (V6.scl da ((V6.scl s y).two (-(m * db)))) = V6.scl db ((V6.scl s x).two (-(m * da))) := by
      unfold V6.scl V6.add V6.two
      apply V6.eq <;> simp only <;> grind
    rw [e, Sg_scl _ _ hdb] at h3
    exact h3
/-- Floors of a folded ratio. -/
theorem Fl_fold (v : V6) (s d k m : Int) : Fl (v.two (-(k * d))) s d (m - s * k) = Fl v s d m := by
  unfold Fl
  congr 1
  unfold V6.scl V6.two
  apply V6.eq <;> simp only <;> grind
theorem FlIs.fold {v : V6} {s d k m : Int} (hs : 0 < s) (hd : 0 < d) (hk : FlIs v 1 d k) (h : FlIs v s d m) : FlIs (v.two (-(k * d))) s d (m - s * k) ∧ 0 ≤ m - s * k ∧ m - s * k < s := by
  have h1 : FlIs (v.two (-(k * d))) s d (m - s * k) := by
    obtain ⟨a, b⟩ := h
    refine ⟨by rw [Fl_fold]; exact a, ?_⟩
    rw [show m - s * k + 1 = m + 1 - s * k by omega, Fl_fold]
    exact b
  refine ⟨h1, ?_, ?_⟩
  · refine h1.le hd ?_
    have h2 := hk.1
    have e : Fl (v.two (-(k * d))) s d 0 = Fl v 1 d k := by
      unfold Fl
      rw [← Sg_scl s ((V6.scl 1 v).two (-(k * d))) hs]
      congr 1
      unfold V6.scl V6.two
      apply V6.eq <;> simp only <;> grind
    rw [e]; exact h2
  · rcases Int.lt_or_le (m - s * k) s with h3 | h3
    · exact h3
    · have h4 := Fl_anti hd h3 h1.1
      have h2 := hk.2
      have e : Fl (v.two (-(k * d))) s d s = Fl v 1 d (k + 1) := by
        unfold Fl
        rw [← Sg_scl s ((V6.scl 1 v).two (-((k + 1) * d))) hs]
        congr 1
        unfold V6.scl V6.two
        apply V6.eq <;> simp only <;> grind
      rw [e] at h4
      omega
end Go.Proofs.YtkoghdgfllichaaDoor
namespace Go.Proofs.YtkoghdgfllichaaDoor

/-! Ratios in lowest terms. -/
def gl (l : List Int) (d : Nat) : Nat := l.foldl (fun g n => Nat.gcd g n.natAbs) d
theorem gl_dvd : ∀ (l : List Int) (d : Nat), gl l d ∣ d ∧ ∀ n ∈ l, gl l d ∣ n.natAbs
  | [], d => ⟨Nat.dvd_refl d, fun n h => by cases h⟩
  | x :: r, d => by
    obtain ⟨h1, h2⟩ := gl_dvd r (Nat.gcd d x.natAbs)
    show gl r (Nat.gcd d x.natAbs) ∣ d ∧ ∀ n ∈ x :: r, gl r (Nat.gcd d x.natAbs) ∣ n.natAbs
    refine ⟨Nat.dvd_trans h1 (Nat.gcd_dvd_left _ _), fun n hn => ?_⟩
    rcases List.mem_cons.1 hn with h | h
    · subst h; exact Nat.dvd_trans h1 (Nat.gcd_dvd_right _ _)
    · exact h2 n h
theorem gl_great : ∀ (l : List Int) (d k : Nat), k ∣ d → (∀ n ∈ l, k ∣ n.natAbs) → k ∣ gl l d
  | [], _, _, h, _ => h
  | x :: r, d, k, h, hl => gl_great r (Nat.gcd d x.natAbs) k (Nat.dvd_gcd h (hl x List.mem_cons_self)) (fun n hn => hl n (List.mem_cons_of_mem _ hn))
theorem gl_scl (k : Int) : ∀ (l : List Int) (d : Nat), gl (l.map (k * ·)) (k.natAbs * d) = k.natAbs * gl l d
  | [], _ => rfl
  | x :: r, d => by
    have ih := gl_scl k r (Nat.gcd d x.natAbs)
    show gl (r.map (k * ·)) (Nat.gcd (k.natAbs * d) (k * x).natAbs) = k.natAbs * gl r (Nat.gcd d x.natAbs)
    rw [Int.natAbs_mul, Nat.gcd_mul_left, ih]
theorem gl_pos {l : List Int} {d : Nat} (h : 0 < d) : 0 < gl l d := Nat.pos_of_dvd_of_pos (gl_dvd l d).1 h
theorem gl_le {l : List Int} {d : Nat} (h : 0 < d) : gl l d ≤ d := Nat.le_of_dvd h (gl_dvd l d).1
theorem gl_abs : ∀ (l : List Int) (d : Nat), gl (l.map fun n => max n (-n)) d = gl l d
  | [], _ => rfl
  | x :: r, d => by
    show gl (r.map fun n => max n (-n)) (Nat.gcd d (max x (-x)).natAbs) = gl r (Nat.gcd d x.natAbs)
    rw [show (max x (-x)).natAbs = x.natAbs by omega]
    exact gl_abs r _
/-- Two ratios in lowest terms that are equal have the same numbers. -/
theorem low_den {l l' : List Int} {d d' : Nat} (h : gl l d = 1) (hl : l.map ((d' : Int) * ·) = l'.map ((d : Int) * ·)) : d ∣ d' := by
  have h1 := gl_scl (d' : Int) l d
  rw [h, Nat.mul_one, Int.natAbs_natCast, hl, Nat.mul_comm d' d] at h1
  rw [← h1]
  refine gl_great _ _ _ (Nat.dvd_mul_right d d') fun n hn => ?_
  obtain ⟨x, _, rfl⟩ := List.mem_map.1 hn
  rw [Int.natAbs_mul, Int.natAbs_natCast]
  exact Nat.dvd_mul_right _ _
def V6.g (v : V6) (d : Int) : Nat := gl v.l d.natAbs
theorem V6.scl_l (k : Int) (v : V6) : (V6.scl k v).l = v.l.map (k * ·) := rfl
theorem V6.of_l {u v : V6} (h : u.l = v.l) : u = v := by
  unfold V6.l at h
  simp only [List.cons.injEq, and_true] at h
  obtain ⟨h1, h2, h3, h4, h5, h6⟩ := h
  exact V6.eq h1 h2 h3 h4 h5 h6
theorem V6.scl_inj {k : Int} {u v : V6} (hk : k ≠ 0) (h : V6.scl k u = V6.scl k v) : u = v := by
  unfold V6.scl at h
  injection h with h1 h2 h3 h4 h5 h6
  exact V6.eq (Int.eq_of_mul_eq_mul_left hk h1) (Int.eq_of_mul_eq_mul_left hk h2) (Int.eq_of_mul_eq_mul_left hk h3) (Int.eq_of_mul_eq_mul_left hk h4) (Int.eq_of_mul_eq_mul_left hk h5) (Int.eq_of_mul_eq_mul_left hk h6)
theorem low_unique {u v : V6} {d e : Int} (hd : 0 < d) (he : 0 < e) (hu : u.g d = 1) (hv : v.g e = 1) (h : V6.scl e u = V6.scl d v) : d = e ∧ u = v := by
  have h1 : u.l.map (((e.natAbs : Nat) : Int) * ·) = v.l.map (((d.natAbs : Nat) : Int) * ·) := by
    rw [show ((e.natAbs : Nat) : Int) = e by omega, show ((d.natAbs : Nat) : Int) = d by omega]
    exact congrArg V6.l h
  have h2 := low_den hu h1
  have h3 := low_den hv h1.symm
  have h4 : d.natAbs = e.natAbs := Nat.dvd_antisymm h2 h3
  have h5 : d = e := by omega
  subst h5
  exact ⟨rfl, V6.scl_inj (by omega) h⟩
def V6.quo (v : V6) (k : Int) : V6 := ⟨v.a.tdiv k, v.b.tdiv k, v.c.tdiv k, v.d.tdiv k, v.e.tdiv k, v.f.tdiv k⟩
/-- The divisor of lowest. -/
def V6.gs (v : V6) (d : Int) : Int := if d < 0 then -(v.g d : Int) else (v.g d : Int)
theorem gs_ne {v : V6} {d : Int} (hd : d ≠ 0) : v.gs d ≠ 0 := by
  have : 0 < v.g d := gl_pos (by omega)
  unfold V6.gs
  split <;> omega
theorem dvd_gs {v : V6} {d n : Int} (h : n ∈ v.l ∨ n = d) : v.gs d ∣ n := by
  have h1 : ((v.g d : Nat) : Int) ∣ n := by
    rw [← Int.dvd_natAbs]
    refine Int.natCast_dvd_natCast.2 ?_
    rcases h with h | h
    · exact (gl_dvd v.l d.natAbs).2 n h
    · subst h; exact (gl_dvd v.l n.natAbs).1
  unfold V6.gs
  split
  · exact Int.neg_dvd.2 h1
  · exact h1
theorem quo_back {v : V6} {d : Int} : V6.scl (v.gs d) (v.quo (v.gs d)) = v ∧ v.gs d * d.tdiv (v.gs d) = d := by
  have m : ∀ n, n ∈ v.l → v.gs d * n.tdiv (v.gs d) = n := fun n hn => Int.mul_tdiv_cancel' (dvd_gs (.inl hn))
  refine ⟨?_, Int.mul_tdiv_cancel' (dvd_gs (.inr rfl))⟩
  unfold V6.scl V6.quo
  apply V6.eq <;> simp only
  · exact m v.a (by simp [V6.l])
  · exact m v.b (by simp [V6.l])
  · exact m v.c (by simp [V6.l])
  · exact m v.d (by simp [V6.l])
  · exact m v.e (by simp [V6.l])
  · exact m v.f (by simp [V6.l])
theorem quo_low {v : V6} {d : Int} (hd : d ≠ 0) : (v.quo (v.gs d)).g (d.tdiv (v.gs d)) = 1 ∧ 0 < d.tdiv (v.gs d) := by
  obtain ⟨b1, b2⟩ := quo_back (v := v) (d := d)
  have hg : 0 < v.g d := gl_pos (by omega)
  have hn : (v.gs d).natAbs = v.g d := by unfold V6.gs; split <;> omega
  have h := gl_scl (v.gs d) (v.quo (v.gs d)).l (d.tdiv (v.gs d)).natAbs
  rw [← V6.scl_l, b1, ← Int.natAbs_mul, b2, hn] at h
  have h' : v.g d = v.g d * (v.quo (v.gs d)).g (d.tdiv (v.gs d)) := h
  constructor
  · have := Nat.eq_of_mul_eq_mul_left hg (h'.symm.trans (Nat.mul_one _).symm)
    exact this
  · have h0 : v.gs d < 0 ∧ d < 0 ∨ 0 < v.gs d ∧ 0 < d := by unfold V6.gs; split <;> omega
    generalize d.tdiv (v.gs d) = q at b2
    generalize v.gs d = G at b2 h0
    rcases h0 with ⟨h1, h2⟩ | ⟨h1, h2⟩
    · rcases Int.lt_trichotomy q 0 with h3 | h3 | h3
      · have := Int.mul_pos_of_neg_of_neg h1 h3; omega
      · subst h3; simp at b2; omega
      · exact h3
    · rcases Int.lt_trichotomy q 0 with h3 | h3 | h3
      · have := Int.mul_neg_of_pos_of_neg h1 h3; omega
      · subst h3; simp at b2; omega
      · exact h3
/-- A ratio's numbers. -/
structure Rt where
  v : V6
  d : Int
theorem Rt.eq {x y : Rt} (h1 : x.v = y.v) (h2 : x.d = y.d) : x = y := by cases x; cases y; simp only at h1 h2; subst h1 h2; rfl
def fitB (n : Int) : Bool := decide (-100000 ≤ n) && decide (n ≤ 100000)
def Rt.fits (r : Rt) : Bool := fitB r.v.a && fitB r.v.b && fitB r.v.c && fitB r.v.d && fitB r.v.e && fitB r.v.f && (decide (1 ≤ r.d) && decide (r.d ≤ 1000))
/-- The error of a ratio. -/
def Rt.err (r : Rt) : Int := if r.fits = true then (if r.v.g r.d = 1 then 0 else 6) else 2
structure Rt.Ok (r : Rt) : Prop where
  fit : r.fits = true
  low : r.v.g r.d = 1
theorem Rt.ok_iff {r : Rt} : r.err = 0 ↔ r.Ok := by
  unfold Rt.err
  constructor
  · intro h
    split at h
    · rename_i h1
      split at h
      · rename_i h2; exact ⟨h1, h2⟩
      · cases h
    · cases h
  · rintro ⟨h1, h2⟩
    rw [if_pos h1, if_pos h2]
theorem fitB_iff {n : Int} : fitB n = true ↔ -100000 ≤ n ∧ n ≤ 100000 := by simp [fitB]
theorem Rt.fits_iff {r : Rt} : r.fits = true ↔ (∀ n ∈ r.v.l, -100000 ≤ n ∧ n ≤ 100000) ∧ 1 ≤ r.d ∧ r.d ≤ 1000 := by
  unfold Rt.fits V6.l
  simp only [Bool.and_eq_true, fitB_iff, decide_eq_true_eq, List.mem_cons, List.not_mem_nil, or_false, forall_eq_or_imp, forall_eq]
  constructor
  · rintro ⟨⟨⟨⟨⟨⟨h1, h2⟩, h3⟩, h4⟩, h5⟩, h6⟩, h7⟩; exact ⟨⟨h1, h2, h3, h4, h5, h6⟩, h7⟩
  · rintro ⟨⟨h1, h2, h3, h4, h5, h6⟩, h7⟩; exact ⟨⟨⟨⟨⟨⟨h1, h2⟩, h3⟩, h4⟩, h5⟩, h6⟩, h7⟩
theorem Rt.Ok.bds {r : Rt} (h : r.Ok) : (∀ n ∈ r.v.l, -100000 ≤ n ∧ n ≤ 100000) ∧ 1 ≤ r.d ∧ r.d ≤ 1000 := Rt.fits_iff.1 h.fit
theorem Rt.Ok.nums {r : Rt} (h : r.Ok) : (-100000 ≤ r.v.a ∧ r.v.a ≤ 100000) ∧ (-100000 ≤ r.v.b ∧ r.v.b ≤ 100000) ∧ (-100000 ≤ r.v.c ∧ r.v.c ≤ 100000) ∧ (-100000 ≤ r.v.d ∧ r.v.d ≤ 100000) ∧ (-100000 ≤ r.v.e ∧ r.v.e ≤ 100000) ∧ (-100000 ≤ r.v.f ∧ r.v.f ≤ 100000) ∧ 1 ≤ r.d ∧ r.d ≤ 1000 := by
  obtain ⟨h1, h2, h3⟩ := h.bds
  unfold V6.l at h1
  simp only [List.mem_cons, List.not_mem_nil, or_false, forall_eq_or_imp, forall_eq] at h1
  obtain ⟨a, b, c, d, e, f⟩ := h1
  exact ⟨a, b, c, d, e, f, h2, h3⟩
def Rt.zero : Rt := ⟨⟨0, 0, 0, 0, 0, 0⟩, 0⟩
/-- What lowest returns: the ratio and the error. -/
def lowR (v : V6) (d : Int) : Rt := ⟨v.quo (v.gs d), d.tdiv (v.gs d)⟩
def lowW (v : V6) (d : Int) : Rt × Int := if (lowR v d).fits = true then (lowR v d, 0) else (Rt.zero, 7)
theorem lowW_ok {v : V6} {d : Int} (hd : d ≠ 0) (h : (lowW v d).2 = 0) : (lowW v d).1 = lowR v d ∧ (lowR v d).Ok := by
  unfold lowW at *
  split
  · rename_i h1
    exact ⟨rfl, h1, (quo_low hd).1⟩
  · rename_i h1
    rw [if_neg h1] at h
    cases h
/-- The ratio that lowest returns is that of the numbers that it got. -/
theorem lowR_val {v : V6} {d : Int} : V6.scl d (lowR v d).v = V6.scl (lowR v d).d v := by
  obtain ⟨b1, b2⟩ := quo_back (v := v) (d := d)
  show V6.scl d (v.quo (v.gs d)) = V6.scl (d.tdiv (v.gs d)) v
  generalize v.quo (v.gs d) = q at *
  generalize d.tdiv (v.gs d) = e at *
  generalize v.gs d = G at *
  rw [← b1, ← b2]
  unfold V6.scl
  apply V6.eq <;> simp only <;> grind
def timesW (x y : Rt) (by_ : Int) : V6 × Int := ((V6.scl y.d x.v).add (V6.scl (by_ * x.d) y.v), x.d * y.d)
/-- Mul and Div. -/
def bothW (x y : Rt) (by_ : Int) : Rt × Int := if x.err = 0 then (if y.err = 0 then lowW (timesW x y by_).1 (timesW x y by_).2 else (Rt.zero, y.err)) else (Rt.zero, x.err)
/-- Pow. -/
def rpowW (x : Rt) (n d : Int) : Rt × Int := if x.err = 0 then (if -1000 ≤ n ∧ n ≤ 1000 ∧ -1000 ≤ d ∧ d ≤ 1000 ∧ d ≠ 0 then lowW (V6.scl n x.v) (x.d * d) else (Rt.zero, 2)) else (Rt.zero, x.err)
end Go.Proofs.YtkoghdgfllichaaDoor
namespace Go.Proofs.YtkoghdgfllichaaDoor

/-! Floors that are far from the ends. -/
theorem two_up {l : List (Nat × Int)} (hp : posN l) {M : Int} (hM : ((wA l + nA l : Nat) : Int) ≤ M) : 0 ≤ sgnP (l ++ [(2, M)]) := by
  rw [sgn_ge, upP_snoc, dnP_snoc, show (-M).toNat = 0 by omega, Nat.pow_zero, Nat.mul_one]
  have h1 := Nat.le_trans (dn_le_all hp) (allP_le hp)
  have h2 : 2 ^ (wA l + nA l) ≤ 2 ^ M.toNat := Nat.pow_le_pow_right (by omega) (by omega)
  exact Nat.le_trans (Nat.le_trans h1 h2) (Nat.le_mul_of_pos_left _ (upP_pos' hp))
theorem two_dn {l : List (Nat × Int)} (hp : posN l) {M : Int} (hM : ((wA l + nA l : Nat) : Int) < -M) : sgnP (l ++ [(2, M)]) < 0 := by
  rw [sgn_lt, upP_snoc, dnP_snoc, show M.toNat = 0 by omega, Nat.pow_zero, Nat.mul_one]
  have h1 := Nat.le_trans (up_le_all hp) (allP_le hp)
  have h2 : 2 ^ (wA l + nA l) < 2 ^ (-M).toNat := Nat.pow_lt_pow_right (by omega) (by omega)
  exact Nat.lt_of_lt_of_le (Nat.lt_of_le_of_lt h1 h2) (Nat.le_mul_of_pos_left _ (dnP_pos' hp))
theorem zl_mem6 {v : V6} {x : Nat × Int} (h : x ∈ v.zl) : (2 ≤ x.1 ∧ x.1 ≤ 13) ∧ x.2 ∈ v.l := by
  have h2 := List.of_mem_zip h
  refine ⟨?_, h2.2⟩
  have h3 := h2.1
  simp only [ps6, List.mem_cons, List.not_mem_nil, or_false] at h3
  omega
theorem sums6 {v : V6} {b : Nat} (h : ∀ n ∈ v.l, n.natAbs ≤ b) : wA v.zl + nA v.zl ≤ 24 * b := by
  obtain ⟨s1, s2⟩ := sums_le (N := 13) (e := b) (w := 3) (by decide) (l := v.zl) fun x hx => by
    obtain ⟨h1, h2⟩ := zl_mem6 hx
    exact ⟨by omega, h1.2, h _ h2⟩
  have hl : v.zl.length = 6 := by unfold V6.zl V6.l ps6; simp
  rw [hl] at s1 s2
  omega
theorem Fl_two (v : V6) (s d m : Int) : Fl v s d m = sgnP ((V6.scl s v).zl ++ [(2, -(m * d))]) := by
  have h := two_eqv (V6.scl s v) (-(m * d))
  unfold Fl Sg
  exact h.sgn (V6.pos _) (posN_append.2 ⟨V6.pos _, fun x hx => by rw [List.mem_singleton] at hx; subst hx; show 1 ≤ 2; omega⟩)
theorem Fl_far {v : V6} {s d : Int} {b : Nat} (h : ∀ n ∈ v.l, n.natAbs ≤ b) (hs : 0 ≤ s) {m : Int} (hm : 24 * (b : Int) * s < m * d) : 0 ≤ Fl v s d (-m) ∧ Fl v s d m < 0 := by
  have h1 := sums6 (v := V6.scl s v) (b := s.natAbs * b) (by
    intro n hn
    rw [V6.scl_l] at hn
    obtain ⟨x, hx, rfl⟩ := List.mem_map.1 hn
    rw [Int.natAbs_mul]
    exact Nat.mul_le_mul_left _ (h x hx))
  have h2 : ((wA (V6.scl s v).zl + nA (V6.scl s v).zl : Nat) : Int) ≤ 24 * (b : Int) * s := by
    have e : 24 * (b : Int) * s = ((24 * (s.natAbs * b) : Nat) : Int) := by
      rw [Int.natCast_mul, Int.natCast_mul, show ((s.natAbs : Nat) : Int) = s by omega]
      rw [show ((24 : Nat) : Int) = 24 from rfl]
      rw [Int.mul_assoc, Int.mul_comm (b : Int) s]
    rw [e]; omega
  constructor
  · rw [Fl_two]
    refine two_up (V6.pos _) ?_
    rw [Int.neg_mul, Int.neg_neg]; omega
  · rw [Fl_two]
    refine two_dn (V6.pos _) ?_
    omega
theorem sgn_nz (v : V6) : sgnP (nz v.zl) = Sg v := by
  unfold Sg sgnP
  rw [(nz_P _).1, (nz_P _).2]
end Go.Proofs.YtkoghdgfllichaaDoor
