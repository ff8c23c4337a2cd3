import Derived.Test.YtlababdfdjjjaaaGreatDoorNI
namespace Go.Proofs.YtlababdfdjjjaaaGreatDoor
open Go.RowKit

/-- Block g holds a fraction. -/
def QB (W : World) (g : Nat) (neg : Bool) (vn vd : Value) : Prop := W.heap[g]? = some (.cells #[.bool neg, vn, vd] 48 (0, 0))
theorem QB.c0 {W : World} {g : Nat} {neg : Bool} {vn vd : Value} (h : QB W g neg vn vd) : W.cell? ⟨g, 0, none⟩ = some (.bool neg) := by rw [Go.Joins.cell_of_block h 0]; rfl
theorem QB.c1 {W : World} {g : Nat} {neg : Bool} {vn vd : Value} (h : QB W g neg vn vd) : W.cell? ⟨g, 1, none⟩ = some vn := by rw [Go.Joins.cell_of_block h 1]; rfl
theorem QB.c2 {W : World} {g : Nat} {neg : Bool} {vn vd : Value} (h : QB W g neg vn vd) : W.cell? ⟨g, 2, none⟩ = some vd := by rw [Go.Joins.cell_of_block h 2]; rfl
theorem QB.fr {W : World} {g : Nat} {neg : Bool} {vn vd : Value} (h : QB W g neg vn vd) (i : Nat) : W.frozen? ⟨g, i, none⟩ = false := by
  have e : W.heap[g]? = some (.cells #[.bool neg, vn, vd] 48 (0, 0)) := h
  simp [World.frozen?, e]
theorem QB.new (W : World) (neg : Bool) (vn vd : Value) : QB (W.alloc (.cells #[.bool neg, vn, vd] 48)) W.heap.size neg vn vd := World.alloc_heap_new W _
theorem QB.below {W W' : World} {B g : Nat} {neg : Bool} {vn vd : Value} (h : QB W g neg vn vd) (hb : Below B W W') (hg : g < B) : QB W' g neg vn vd := (hb.block g hg).trans h
theorem QB.lt {W : World} {g : Nat} {neg : Bool} {vn vd : Value} (h : QB W g neg vn vd) : g < W.heap.size := (Array.getElem?_eq_some_iff.1 (show W.heap[g]? = some _ from h)).1
/-- A fraction written over another. -/
def wroteQ (W : World) (g : Nat) (neg : Bool) (vn vd : Value) : World := ((W.setCell ⟨g, 0, none⟩ (.bool neg)).setCell ⟨g, 1, none⟩ vn).setCell ⟨g, 2, none⟩ vd
theorem QB.write {W : World} {g : Nat} {neg : Bool} {vn vd : Value} (h : QB W g neg vn vd) (neg' : Bool) (vn' vd' : Value) : QB (wroteQ W g neg' vn' vd') g neg' vn' vd' := by
  have e : W.heap[g]? = some (.cells #[.bool neg, vn, vd] 48 (0, 0)) := h
  show (wroteQ W g neg' vn' vd').heap[g]? = _
  simp [wroteQ, World.setCell, Array.getElem?_modify, e]
theorem wroteQ_below {w W : World} {B g : Nat} (hb : Below B w W) (hg : B ≤ g) (neg : Bool) (vn vd : Value) : Below B w (wroteQ W g neg vn vd) :=
  ((hb.setCell (p := ⟨g, 0, none⟩) hg _).setCell (p := ⟨g, 1, none⟩) hg _).setCell (p := ⟨g, 2, none⟩) hg _
/-- A fraction and an error number. -/
def ResQ (w : World) (neg : Bool) (m n : Nat) (ec : Int) (e : Ending) (w' : World) : Prop :=
  ∃ vn vd, e = .returned (.tuple #[.agg #[.bool neg, vn, vd], .int .i64 ec]) ∧ Num w' w'.heap.size vn m ∧ Num w' w'.heap.size vd n ∧ Below w.heap.size w w'
theorem cell_heap {W W' : World} {g i : Nat} (h : W'.heap[g]? = W.heap[g]?) : W'.cell? ⟨g, i, none⟩ = W.cell? ⟨g, i, none⟩ := by
  unfold World.cell?
  simp only [h]
/-- What a number holds when an empty fraction is written over. -/
theorem Lim.wroteQ {W : World} {B g : Nat} {v : Value} {l : List Nat} (h : Lim W B v l) (hq : QB W g false (.slice none 0 0) (.slice none 0 0)) (neg' : Bool) (vn' vd' : Value) : Lim (Go.Proofs.YtlababdfdjjjaaaGreatDoor.wroteQ W g neg' vn' vd') B v l := by
  obtain ⟨⟨A, cap, e, hc, hh⟩, ho⟩ := h
  refine ⟨⟨A, cap, e, hc, fun hne => ?_⟩, ho⟩
  obtain ⟨g', o, ea, hg, hx⟩ := hh hne
  refine ⟨g', o, ea, hg, fun k x hk => ?_⟩
  have h1 := hx k x hk
  by_cases hgg : g' = g
  · subst hgg
    exfalso
    rw [List.getElem?_map] at hk
    obtain ⟨y, -, rfl⟩ := Option.map_eq_some_iff.1 hk
    have h0 := hq.c0
    have h2 := hq.c1
    have h3 := hq.c2
    rw [Go.Joins.cell_of_block hq] at h1
    match hok : o + k, h1 with
    | 0, h1 => simp [u32] at h1
    | 1, h1 => simp [u32] at h1
    | 2, h1 => simp [u32] at h1
    | j + 3, h1 => simp at h1
  · rw [← h1]
    refine cell_heap ?_
    unfold Go.Proofs.YtlababdfdjjjaaaGreatDoor.wroteQ
    rw [heap_other _ hgg, heap_other _ hgg, heap_other _ hgg]
def lowW (neg : Bool) (m n : Nat) : Bool × Nat × Nat × Int :=
  if 512 < (dg (m / Nat.gcd m n)).length ∨ 512 < (dg (n / Nat.gcd m n)).length then (false, 0, 0, 3) else (neg && decide (m / Nat.gcd m n ≠ 0), m / Nat.gcd m n, n / Nat.gcd m n, 0)
def ResW (w : World) (r : Bool × Nat × Nat × Int) (e : Ending) (w' : World) : Prop := ResQ w r.1 r.2.1 r.2.2.1 r.2.2.2 e w'

set_option maxRecDepth 100000 in
set_option maxHeartbeats 4000000 in
theorem lowest_any (neg : Bool) (va vb : Value) (m n : Nat) (w : World) (ha : Num w w.heap.size va m) (hb : Num w w.heap.size vb n) (hn : n ≠ 0) (hla : (dg m).length ≤ 1000000) (hlb : (dg n).length ≤ 1000000) :
    Calls Tryz.prog 110 #[.bool neg, va, vb] w (ResW w (lowW neg m n)) := by
  have hg0 : Nat.gcd m n ≠ 0 := fun h => hn (Nat.eq_zero_of_gcd_eq_zero_right h)
  have hb0 : Below w.heap.size w (w.alloc (.cells #[.bool false, .slice none 0 0, .slice none 0 0] 48)) := (Below.refl _ w).alloc (Nat.le_refl _) _
  have hq0 := QB.new w false (.slice none 0 0) (.slice none 0 0)
  have hcm := common_any va vb m n _ (Lim.up ha hb0) (Lim.up hb hb0) hla hlb
  have hd1 : ∀ W v, Below w.heap.size w W → Num W W.heap.size v (Nat.gcd m n) → Calls Tryz.prog 98 #[va, v] W (fun e w' => ∃ q r, e = .returned (.tuple #[q, r]) ∧ Num w' w'.heap.size q (m / Nat.gcd m n) ∧ Below W.heap.size W w') := fun W v hW hv => (divide_any _ _ _ _ W (Lim.up ha hW) hv hla hg0).mono (fun e w' h => by obtain ⟨q, r, h1, h2, -, h4⟩ := h; exact ⟨q, r, h1, h2, h4⟩)
  have hd2 : ∀ W v, Below w.heap.size w W → Num W W.heap.size v (Nat.gcd m n) → Calls Tryz.prog 98 #[vb, v] W (fun e w' => ∃ q r, e = .returned (.tuple #[q, r]) ∧ Num w' w'.heap.size q (n / Nat.gcd m n) ∧ Below W.heap.size W w') := fun W v hW hv => (divide_any _ _ _ _ W (Lim.up hb hW) hv hlb hg0).mono (fun e w' h => by obtain ⟨q, r, h1, h2, -, h4⟩ := h; exact ⟨q, r, h1, h2, h4⟩)
  have hl1 : (dg (m / Nat.gcd m n)).length ≤ 1000000 := Nat.le_trans (dg_mono (Nat.div_le_self _ _)) hla
  have hl2 : (dg (n / Nat.gcd m n)).length ≤ 1000000 := Nat.le_trans (dg_mono (Nat.div_le_self _ _)) hlb
  obtain ⟨A, capa, rfl, -⟩ := ha.form
  obtain ⟨B, capb, rfl, -⟩ := hb.form
  unfold lowW
  generalize Nat.gcd m n = g at *
  have HQ0 := Lib.hid hq0
  have HB0 := Lib.hid hb0
  have HCM := Lib.hid hcm
  have HD1 := Lib.hid hd1
  have HD2 := Lib.hid hd2
  clear hq0 hb0 hcm hd1 hd2 ha hb hla hlb
  generalize (dg m).length = la at *
  generalize (dg n).length = lb at *
  generalize m / g = N1 at *
  generalize n / g = N2 at *
  obtain ⟨res, hres⟩ : ∃ res : Bool × Nat × Nat × Int, res = if 512 < (dg N1).length ∨ 512 < (dg N2).length then (false, 0, 0, 3) else (neg && decide (N1 ≠ 0), N1, N2, 0) := ⟨_, rfl⟩
  rw [← hres]
  have HRES := Lib.hid hres
  clear hres
  go_enter Tryz.func110, Tryz.ntmps110
  go_wp2_with fail
  refine HCM.out.mono ?_
  rintro e w1 ⟨vg, he, hvg, hb1⟩
  subst he
  have hb01 := HB0.out.trans (hb1.mono HB0.out.size)
  have hq1 := HQ0.out.below hb1 HQ0.out.lt
  go_wp2_with fail
  refine (HD1.out w1 vg hb01 hvg).mono ?_
  rintro e w2 ⟨q1, r1, he, hn1, hb2⟩
  subst he
  have hb02 := hb01.trans (hb2.mono hb01.size)
  have hq2 := hq1.below hb2 hq1.lt
  go_wp2_with fail
  refine (HD2.out w2 vg hb02 (Lim.up hvg hb2)).mono ?_
  rintro e w3 ⟨q2, r2, he, hn2, hb3⟩
  subst he
  have hb03 := hb02.trans (hb3.mono hb02.size)
  have hq3 := hq2.below hb3 hq2.lt
  have hn1' : Num w3 w3.heap.size q1 N1 := Lim.up hn1 hb3
  have hz := isZero_any _ _ _ _ hn1'
  obtain ⟨A1, c1', rfl, -⟩ := hn1'.form
  obtain ⟨A2, c2', rfl, -⟩ := hn2.form
  have c0 := hq3.c0
  have c1 := hq3.c1
  have c2 := hq3.c2
  have f0 := hq3.fr 0
  have f1 := hq3.fr 1
  have f2 := hq3.fr 2
  by_cases hlong : 512 < (dg N1).length ∨ 512 < (dg N2).length
  · have hres := HRES.out
    rw [if_pos hlong] at hres
    subst hres
    have hQ := hq3.write false (.slice none 0 0) (.slice none 0 0)
    have hBl := wroteQ_below hb03 (Nat.le_refl _) false (.slice none 0 0) (.slice none 0 0)
    have HQ := Lib.hid hQ
    have HBl := Lib.hid hBl
    clear hn1 hn2 hn1' hz hq1 hq2 hq3 hQ hBl
    generalize (dg N1).length = l1 at *
    generalize (dg N2).length = l2 at *
    by_cases h1 : 512 < l1
    · have h1i : (512 : Int) < (l1 : Int) := by omega
      go_wp2_with fail
      change bodyPost _ _ _ Exit.ret _ (wroteQ w3 w.heap.size false (.slice none 0 0) (.slice none 0 0))
      generalize wroteQ w3 w.heap.size false (.slice none 0 0) (.slice none 0 0) = W9 at HQ HBl ⊢
      have k0 := HQ.out.c0
      have k1 := HQ.out.c1
      have k2 := HQ.out.c2
      refine bodyPost_ret (v := .tuple #[.agg #[.bool false, .slice none 0 0, .slice none 0 0], .int .i64 3]) ?_ rfl ⟨_, _, rfl, Num.zero _ _, Num.zero _ _, HBl.out⟩
      simp [results, Tryz.results110, k0, k1, k2, go_sem]
    · have h2 : 512 < l2 := by omega
      have h1i : ¬ (512 : Int) < (l1 : Int) := by omega
      have h2i : (512 : Int) < (l2 : Int) := by omega
      go_wp2_with fail
      change bodyPost _ _ _ Exit.ret _ (wroteQ w3 w.heap.size false (.slice none 0 0) (.slice none 0 0))
      generalize wroteQ w3 w.heap.size false (.slice none 0 0) (.slice none 0 0) = W9 at HQ HBl ⊢
      have k0 := HQ.out.c0
      have k1 := HQ.out.c1
      have k2 := HQ.out.c2
      refine bodyPost_ret (v := .tuple #[.agg #[.bool false, .slice none 0 0, .slice none 0 0], .int .i64 3]) ?_ rfl ⟨_, _, rfl, Num.zero _ _, Num.zero _ _, HBl.out⟩
      simp [results, Tryz.results110, k0, k1, k2, go_sem]
  · have hres := HRES.out
    rw [if_neg hlong] at hres
    subst hres
    have h1i : ¬ (512 : Int) < ((dg N1).length : Int) := by omega
    have h2i : ¬ (512 : Int) < ((dg N2).length : Int) := by omega
    have hfin : ∀ sg : Bool, QB (wroteQ w3 w.heap.size sg (.slice A1 (dg N1).length c1') (.slice A2 (dg N2).length c2')) w.heap.size sg (.slice A1 (dg N1).length c1') (.slice A2 (dg N2).length c2') ∧
        Num (wroteQ w3 w.heap.size sg (.slice A1 (dg N1).length c1') (.slice A2 (dg N2).length c2')) w3.heap.size (.slice A1 (dg N1).length c1') N1 ∧
        Num (wroteQ w3 w.heap.size sg (.slice A1 (dg N1).length c1') (.slice A2 (dg N2).length c2')) w3.heap.size (.slice A2 (dg N2).length c2') N2 ∧
        Below w.heap.size w (wroteQ w3 w.heap.size sg (.slice A1 (dg N1).length c1') (.slice A2 (dg N2).length c2')) ∧
        w3.heap.size ≤ (wroteQ w3 w.heap.size sg (.slice A1 (dg N1).length c1') (.slice A2 (dg N2).length c2')).heap.size := fun sg =>
      ⟨hq3.write sg _ _, Lim.wroteQ hn1' hq3 sg _ _, Lim.wroteQ hn2 hq3 sg _ _, wroteQ_below hb03 (Nat.le_refl _) sg _ _, by simp [wroteQ, World.setCell]⟩
    have HF := Lib.hid hfin
    have HZ := Lib.hid hz
    clear hn1 hn2 hn1' hz hq1 hq2 hq3 hfin hlong
    generalize (dg N1).length = l1 at *
    generalize (dg N2).length = l2 at *
    generalize hz0 : decide (N1 = 0) = z at *
    have hnz : decide (N1 ≠ 0) = !z := by rw [← hz0]; by_cases h : N1 = 0 <;> simp [h]
    rw [hnz]
    have HFN := Lib.hid (HF.out (neg && !z))
    cases neg
    · go_wp2_with fail
      change bodyPost _ _ _ Exit.ret _ (wroteQ w3 w.heap.size false (.slice A1 l1 c1') (.slice A2 l2 c2'))
      obtain ⟨g1, g2, g3, g4, g5⟩ := HFN.out
      simp only [Bool.false_and] at g1 g2 g3 g4 g5
      generalize wroteQ w3 w.heap.size false (.slice A1 l1 c1') (.slice A2 l2 c2') = W9 at g1 g2 g3 g4 g5 ⊢
      have k0 := g1.c0
      have k1 := g1.c1
      have k2 := g1.c2
      refine bodyPost_ret (v := .tuple #[.agg #[.bool false, .slice A1 l1 c1', .slice A2 l2 c2'], .int .i64 0]) ?_ rfl ⟨_, _, rfl, Lim.more g2 g5, Lim.more g3 g5, g4⟩
      simp [results, Tryz.results110, k0, k1, k2, go_sem]
    · go_wp2_with fail
      refine HZ.out.mono ?_
      rintro e w4 ⟨he, rfl⟩
      subst he
      go_wp2_with fail
      change bodyPost _ _ _ Exit.ret _ (wroteQ w3 w.heap.size (!z) (.slice A1 l1 c1') (.slice A2 l2 c2'))
      obtain ⟨g1, g2, g3, g4, g5⟩ := HFN.out
      simp only [Bool.true_and] at g1 g2 g3 g4 g5
      generalize wroteQ w3 w.heap.size (!z) (.slice A1 l1 c1') (.slice A2 l2 c2') = W9 at g1 g2 g3 g4 g5 ⊢
      have k0 := g1.c0
      have k1 := g1.c1
      have k2 := g1.c2
      refine bodyPost_ret (v := .tuple #[.agg #[.bool (!z), .slice A1 l1 c1', .slice A2 l2 c2'], .int .i64 0]) ?_ rfl ⟨_, _, by simp only [Bool.true_and, hnz], Lim.more g2 g5, Lim.more g3 g5, g4⟩
      simp [results, Tryz.results110, k0, k1, k2, go_sem]
end Go.Proofs.YtlababdfdjjjaaaGreatDoor
namespace Go.Proofs.YtlababdfdjjjaaaGreatDoor
open Go.RowKit

structure FSum (w : World) (na : Bool) (van vad : Value) (nb : Bool) (vbn vbd : Value) (W : World) : Prop where
  qa : QB W w.heap.size na van vad
  qb : QB W (w.heap.size + 1) nb vbn vbd
  qr : QB W (w.heap.size + 1 + 1) false (.slice none 0 0) (.slice none 0 0)
  bl : Below w.heap.size w W
theorem FSum.drew {w W : World} {na nb : Bool} {van vad vbn vbd : Value} (h : FSum w na van vad nb vbn vbd W) : FSum w na van vad nb vbn vbd W.drew := ⟨h.qa, h.qb, h.qr, h.bl.drew⟩
theorem FSum.below {w W W' : World} {na nb : Bool} {van vad vbn vbd : Value} (h : FSum w na van vad nb vbn vbd W) (hb : Below W.heap.size W W') : FSum w na van vad nb vbn vbd W' :=
  ⟨h.qa.below hb h.qa.lt, h.qb.below hb h.qb.lt, h.qr.below hb h.qr.lt, h.bl.trans (hb.mono h.bl.size)⟩
theorem cell_other3 {W : World} {g k i : Nat} {v : Value} (h : W.cell? ⟨g, i, none⟩ = some v) (hne : g ≠ k) (a b c : Value) : (((W.setCell ⟨k, 0, none⟩ a).setCell ⟨k, 1, none⟩ b).setCell ⟨k, 2, none⟩ c).cell? ⟨g, i, none⟩ = some v := (cell_heap (by rw [heap_other _ hne, heap_other _ hne, heap_other _ hne])).trans h
theorem below_next {n : Nat} {w W W' : World} (hb : Below W.heap.size W W') (h : Below n w W) (hn : n = w.heap.size) : Below n w W' := h.trans (hb.mono (by rw [hn]; exact h.size))
def fsumW (na : Bool) (m1 n1 : Nat) (nb : Bool) (m2 n2 : Nat) : Bool × Nat × Nat × Int :=
  if na = nb then lowW na (m1 * n2 + m2 * n1) (n1 * n2) else if m1 * n2 < m2 * n1 then lowW nb (m2 * n1 - m1 * n2) (n1 * n2) else lowW na (m1 * n2 - m2 * n1) (n1 * n2)

set_option maxRecDepth 100000 in
set_option maxHeartbeats 4000000 in
theorem fractionSum_any (na nb : Bool) (van vad vbn vbd : Value) (m1 n1 m2 n2 : Nat) (w : World) (h1 : Num w w.heap.size van m1) (h2 : Num w w.heap.size vad n1) (h3 : Num w w.heap.size vbn m2) (h4 : Num w w.heap.size vbd n2)
    (hn1 : n1 ≠ 0) (hn2 : n2 ≠ 0) (l1 : (dg m1).length ≤ 10000) (l2 : (dg n1).length ≤ 10000) (l3 : (dg m2).length ≤ 10000) (l4 : (dg n2).length ≤ 10000) :
    Calls Tryz.prog 106 #[.agg #[.bool na, van, vad], .agg #[.bool nb, vbn, vbd]] w (ResW w (fsumW na m1 n1 nb m2 n2)) := by
  have hpr : ∀ W u v a b, Num W W.heap.size u a → Num W W.heap.size v b → (dg a).length ≤ 10000 → (dg b).length ≤ 10000 → Calls Tryz.prog 85 #[u, v] W (NumPost W (a * b)) := by
    intro W u v a b hu hv ha hb
    have := product_any u v _ _ W hu hv (by omega) (by omega)
    rw [val_dg, val_dg] at this
    exact this
  have hp1 : ∀ W, Below w.heap.size w W → Calls Tryz.prog 85 #[van, vbd] W (NumPost W (m1 * n2)) := fun W hW => hpr W _ _ _ _ (Lim.up h1 hW) (Lim.up h4 hW) l1 l4
  have hp2 : ∀ W, Below w.heap.size w W → Calls Tryz.prog 85 #[vbn, vad] W (NumPost W (m2 * n1)) := fun W hW => hpr W _ _ _ _ (Lim.up h3 hW) (Lim.up h2 hW) l3 l2
  have hp3 : ∀ W, Below w.heap.size w W → Calls Tryz.prog 85 #[vad, vbd] W (NumPost W (n1 * n2)) := fun W hW => hpr W _ _ _ _ (Lim.up h2 hW) (Lim.up h4 hW) l2 l4
  have k1 := len_mul m1 n2
  have k2 := len_mul m2 n1
  have k3 := len_mul n1 n2
  have hd0 : n1 * n2 ≠ 0 := Nat.mul_ne_zero hn1 hn2
  unfold fsumW
  generalize m1 * n2 = x at *
  generalize m2 * n1 = y at *
  generalize n1 * n2 = d at *
  have hx : (dg x).length ≤ 100000 := by omega
  have hy : (dg y).length ≤ 100000 := by omega
  have hd : (dg d).length ≤ 100000 := by omega
  have hF : FSum w na van vad nb vbn vbd (((w.alloc (.cells #[.bool na, van, vad] 48)).alloc (.cells #[.bool nb, vbn, vbd] 48)).alloc (.cells #[.bool false, .slice none 0 0, .slice none 0 0] 48)) := by
    have b1 : Below w.heap.size w (w.alloc (.cells #[.bool na, van, vad] 48)) := (Below.refl _ w).alloc (Nat.le_refl _) _
    have q1 := QB.new w na van vad
    have q2 := QB.new (w.alloc (.cells #[.bool na, van, vad] 48)) nb vbn vbd
    have q3 := QB.new ((w.alloc (.cells #[.bool na, van, vad] 48)).alloc (.cells #[.bool nb, vbn, vbd] 48)) false (.slice none 0 0) (.slice none 0 0)
    have bA := fun (W : World) (o : Obj) => (Below.refl W.heap.size W).alloc (Nat.le_refl _) o
    rw [World.size_alloc] at q2
    rw [World.size_alloc, World.size_alloc] at q3
    exact ⟨(q1.below (bA _ _) q1.lt).below (bA _ _) (q1.below (bA _ _) q1.lt).lt, q2.below (bA _ _) q2.lt, q3, ((b1.alloc (by simp) _).alloc (by simp; omega) _)⟩
  have c0 := hF.qa.c0
  have c1 := hF.qa.c1
  have c2 := hF.qa.c2
  have d0 := hF.qb.c0
  have d1 := hF.qb.c1
  have d2 := hF.qb.c2
  obtain ⟨A1, e1, rfl, -⟩ := h1.form
  obtain ⟨A2, e2, rfl, -⟩ := h2.form
  obtain ⟨A3, e3, rfl, -⟩ := h3.form
  obtain ⟨A4, e4, rfl, -⟩ := h4.form
  obtain ⟨res, hres⟩ : ∃ res : Bool × Nat × Nat × Int, res = if na = nb then lowW na (x + y) d else if x < y then lowW nb (y - x) d else lowW na (x - y) d := ⟨_, rfl⟩
  rw [← hres]
  have HRES := Lib.hid hres
  have HP1 := Lib.hid hp1
  have HP2 := Lib.hid hp2
  have HP3 := Lib.hid hp3
  clear hres hpr hp1 hp2 hp3 h1 h2 h3 h4 l1 l2 l3 l4 k1 k2 k3
  generalize (dg m1).length = s1 at *
  generalize (dg n1).length = s2 at *
  generalize (dg m2).length = s3 at *
  generalize (dg n2).length = s4 at *
  go_enter Tryz.func106, Tryz.ntmps106
  go_wp2_with fail
  go_region_held3 (fun w' => FSum w na (.slice A1 s1 e1) (.slice A2 s2 e2) nb (.slice A3 s3 e3) (.slice A4 s4 e4) w' ∧ w'.cell? ⟨w.heap.size, 1, none⟩ = some (.slice A1 s1 e1) ∧ w'.cell? ⟨w.heap.size, 2, none⟩ = some (.slice A2 s2 e2) ∧ w'.cell? ⟨w.heap.size + 1, 1, none⟩ = some (.slice A3 s3 e3) ∧ w'.cell? ⟨w.heap.size + 1, 2, none⟩ = some (.slice A4 s4 e4))
    (refine ⟨?_, ?_, ?_, ?_, ?_⟩ <;> first | assumption | (exact FSum.drew ‹_›) | go_keep)
    (first
      | (go_at_call 85; refine Calls.mono (HP1.out _ (FSum.bl (by first | assumption | exact FSum.drew ‹_›))) ?_; clear HP1; rintro e w2 ⟨vx, he, hvx, hbx⟩; subst he; have hS2 := FSum.below (by first | assumption | exact FSum.drew ‹_›) hbx; have c1' := hS2.qa.c1; have c2' := hS2.qa.c2; have d1' := hS2.qb.c1; have d2' := hS2.qb.c2)
      | (go_at_call 85; refine Calls.mono (HP2.out _ (FSum.bl (by first | assumption | exact FSum.drew ‹_›))) ?_; clear HP2; rintro e w3 ⟨vy, he, hvy, hby⟩; subst he; have hS3 := FSum.below (by first | assumption | exact FSum.drew ‹_›) hby; have c1' := hS3.qa.c1; have c2' := hS3.qa.c2; have d1' := hS3.qb.c1; have d2' := hS3.qb.c2))
  have hvx3 := Lim.up hvx hby
  have hd3 := HP3.out w3 hS3.bl
  have x1 := hS3.qa.c2
  have x2 := hS3.qb.c2
  go_wp2_with fail
  refine hd3.mono ?_
  rintro e w4 ⟨vd, he, hvd, hbd⟩
  subst he
  have hS4 := hS3.below hbd
  have hvx4 := Lim.up hvx3 hbd
  have hvy4 := Lim.up hvy hbd
  have y0 := hS4.qa.c0
  have y1 := hS4.qb.c0
  have r0 := hS4.qr.c0
  have r1 := hS4.qr.c1
  have r2 := hS4.qr.c2
  have r3 := hS4.qr.fr 0
  have r4 := hS4.qr.fr 1
  have r5 := hS4.qr.fr 2
  have hcmp := compare_any vx vy x y w4 hvx4 hvy4 (by omega)
  have hsm : ∀ W, Below w4.heap.size w4 W → Calls Tryz.prog 84 #[vx, vy] W (NumPost W (x + y)) := by
    intro W hW
    have := sum_any vx vy _ _ W (Lim.up hvx4 hW) (Lim.up hvy4 hW) (by omega) (by omega)
    rw [val_dg, val_dg] at this
    exact this
  have hdf1 : ∀ W, Below w4.heap.size w4 W → y ≤ x → Calls Tryz.prog 96 #[vx, vy] W (NumPost W (x - y)) := fun W hW hle => difference_any vx vy x y W (Lim.up hvx4 hW) (Lim.up hvy4 hW) hle (by omega)
  have hdf2 : ∀ W, Below w4.heap.size w4 W → x ≤ y → Calls Tryz.prog 96 #[vy, vx] W (NumPost W (y - x)) := fun W hW hle => difference_any vy vx y x W (Lim.up hvy4 hW) (Lim.up hvx4 hW) hle (by omega)
  have hlow : ∀ W sg v z (r : Bool × Nat × Nat × Int), lowW sg z d = r → Below w4.heap.size w4 W → Num W W.heap.size v z → z ≤ x + y → Calls Tryz.prog 110 #[.bool sg, v, vd] W (fun e w' => ∃ Bn ln cn Bd ld cd, e = .returned (.tuple #[.agg #[.bool r.1, .slice Bn ln cn, .slice Bd ld cd], .int .i64 r.2.2.2]) ∧ Num w' w'.heap.size (.slice Bn ln cn) r.2.1 ∧ Num w' w'.heap.size (.slice Bd ld cd) r.2.2.1 ∧ Below W.heap.size W w') := by
    intro W sg v z r hr hW hv hz
    subst hr
    have hzl : (dg (x + y)).length ≤ 100001 := by
      have h1 := lt_dg x
      have h2 := lt_dg y
      obtain ⟨N, hN⟩ : ∃ N, N = 100000 := ⟨_, rfl⟩
      rw [← hN] at hx hy
      have h3 : LB ^ (dg x).length ≤ LB ^ N := Nat.pow_le_pow_right LB_pos hx
      have h4 : LB ^ (dg y).length ≤ LB ^ N := Nat.pow_le_pow_right LB_pos hy
      have p1 : LB ^ (N + 1) = LB ^ N * LB := Nat.pow_succ ..
      have h5 : LB ^ N * 2 ≤ LB ^ N * LB := Nat.mul_le_mul_left _ LB_two
      have := (dg_le (n := x + y) (k := N + 1)).2 (by omega)
      omega
    refine (lowest_any sg v vd z d W hv (Lim.up hvd hW) hd0 (Nat.le_trans (dg_mono hz) (by omega)) (by omega)).mono ?_
    generalize lowW sg z d = rr
    rintro e w' ⟨vn, vd2, he, h1, h2, h3⟩
    have f1 := h1.form
    have f2 := h2.form
    obtain ⟨Bn, cn, rfl, -⟩ := f1
    obtain ⟨Bd, cd, rfl, -⟩ := f2
    exact ⟨Bn, _, cn, Bd, _, cd, he, h1, h2, h3⟩
  have HCMP := Lib.hid hcmp
  have HSM := Lib.hid hsm
  have HDF1 := Lib.hid hdf1
  have HDF2 := Lib.hid hdf2
  have HLOW := Lib.hid hlow
  clear hcmp hsm hdf1 hdf2 hlow hvx3 hvx4 hvy4 hvx hvy hvd hd3 hS3 x1 x2 hF
  clear c0 c1 c2 d0 d1 d2
  have hb44 := Below.refl w4.heap.size w4
  by_cases hs : na = nb
  · have hres := HRES.out
    rw [if_pos hs] at hres
    have hr := hres.symm
    clear hres
    obtain ⟨rs, rm, rn, re⟩ := res
    have HQ1 := HSM
    have qb1 : (na == nb) = true := by rw [hs]; cases nb <;> rfl
    clear hs
    go_wp2_with fail
    go_region_held3 (fun w' => w'.cell? ⟨w.heap.size, 0, none⟩ = some (.bool na) ∧ w'.cell? ⟨w.heap.size + 1, 0, none⟩ = some (.bool nb))
      (((try dsimp only); constructor <;> first | assumption | exact kp1 _ _ _ | exact kp2 _ _ _ | go_keep))
      (first
        | (go_at_call 84; refine Calls.mono (HQ1.out _ (by first | assumption | exact Below.drew hb44)) ?_; clear HQ1; rintro e w5 ⟨vs, he, hvs, hbs⟩; subst he; have hb45 := below_next (n := w4.heap.size) (w := w4) hbs (by first | assumption | exact Below.drew hb44) rfl; have hS5 := hS4.below hb45; have c0' := hS5.qa.c0; have d0' := hS5.qb.c0; have r0' := hS5.qr.c0; have r1' := hS5.qr.c1; have r2' := hS5.qr.c2; have r3' := hS5.qr.fr 0; have r4' := hS5.qr.fr 1; have r5' := hS5.qr.fr 2)
        | (go_at_call 110; refine Calls.mono (HLOW.out _ na _ (x + y) (rs, rm, rn, re) hr hb45 hvs (by omega)) ?_; clear HLOW; rintro e w6 ⟨Bn, ln, cn, Bd, ld, cd, he, hvn, hvd2, hbl⟩; subst he; have hb46 := below_next (n := w4.heap.size) (w := w4) hbl hb45 rfl; have hS6 := hS4.below hb46; have c0' := hS6.qa.c0; have d0' := hS6.qb.c0; have kp1 := cell_other3 (k := w.heap.size + 1 + 1) c0' (by omega); have kp2 := cell_other3 (k := w.heap.size + 1 + 1) d0' (by omega); have r0' := hS6.qr.c0; have r1' := hS6.qr.c1; have r2' := hS6.qr.c2; have r3' := hS6.qr.fr 0; have r4' := hS6.qr.fr 1; have r5' := hS6.qr.fr 2))
    go_wp2_with fail
    change bodyPost _ _ _ Exit.ret _ (wroteQ w6 (w.heap.size + 1 + 1) rs (.slice Bn ln cn) (.slice Bd ld cd))
    have g1 := hS6.qr.write rs (.slice Bn ln cn) (.slice Bd ld cd)
    have g2 : Num (wroteQ w6 (w.heap.size + 1 + 1) rs (.slice Bn ln cn) (.slice Bd ld cd)) w6.heap.size (.slice Bn ln cn) rm := Lim.wroteQ hvn hS6.qr rs _ _
    have g3 : Num (wroteQ w6 (w.heap.size + 1 + 1) rs (.slice Bn ln cn) (.slice Bd ld cd)) w6.heap.size (.slice Bd ld cd) rn := Lim.wroteQ hvd2 hS6.qr rs _ _
    have g4 := wroteQ_below hS6.bl (show w.heap.size ≤ w.heap.size + 1 + 1 by omega) rs (.slice Bn ln cn) (.slice Bd ld cd)
    have g5 : w6.heap.size ≤ (wroteQ w6 (w.heap.size + 1 + 1) rs (.slice Bn ln cn) (.slice Bd ld cd)).heap.size := by simp [wroteQ, World.setCell]
    generalize wroteQ w6 (w.heap.size + 1 + 1) rs (.slice Bn ln cn) (.slice Bd ld cd) = W9 at g1 g2 g3 g4 g5 ⊢
    have k0 := g1.c0
    have k1 := g1.c1
    have k2 := g1.c2
    refine bodyPost_ret (v := .tuple #[.agg #[.bool rs, .slice Bn ln cn, .slice Bd ld cd], .int .i64 re]) ?_ rfl ⟨_, _, rfl, Lim.more g2 g5, Lim.more g3 g5, g4⟩
    simp [results, Tryz.results106, k0, k1, k2, go_sem]

  · have qb1 : (na == nb) = false := by cases na <;> cases nb <;> first | rfl | exact absurd rfl hs
    have hres := HRES.out
    rw [if_neg hs] at hres
    clear hs
    by_cases hlt : x < y
    · rw [if_pos hlt] at hres
      have hr := hres.symm
      clear hres
      obtain ⟨rs, rm, rn, re⟩ := res
      have hcmp := HCMP.out
      rw [cmpI_lt hlt] at hcmp
      have HC2 := Lib.hid hcmp
      clear hcmp
      have HQ1 := Lib.hid (fun W hW => HDF2.out W hW (Nat.le_of_lt hlt))
      go_wp2_with fail
      refine HC2.out.mono ?_
      rintro e w4d ⟨he, hd4⟩
      subst he
      have hb44 := hd4.below
      have hS4d := hS4.below hb44
      have y0d := hS4d.qa.c0
      have y1d := hS4d.qb.c0
      go_wp2_with fail
      go_region_held3 (fun w' => w'.cell? ⟨w.heap.size, 0, none⟩ = some (.bool na) ∧ w'.cell? ⟨w.heap.size + 1, 0, none⟩ = some (.bool nb))
        (((try dsimp only); constructor <;> first | assumption | exact kp1 _ _ _ | exact kp2 _ _ _ | go_keep))
        (first
          | (go_at_call 96; refine Calls.mono (HQ1.out _ (by first | assumption | exact Below.drew hb44)) ?_; clear HQ1; rintro e w5 ⟨vs, he, hvs, hbs⟩; subst he; have hb45 := below_next (n := w4.heap.size) (w := w4) hbs (by first | assumption | exact Below.drew hb44) rfl; have hS5 := hS4.below hb45; have c0' := hS5.qa.c0; have d0' := hS5.qb.c0; have r0' := hS5.qr.c0; have r1' := hS5.qr.c1; have r2' := hS5.qr.c2; have r3' := hS5.qr.fr 0; have r4' := hS5.qr.fr 1; have r5' := hS5.qr.fr 2)
          | (go_at_call 110; refine Calls.mono (HLOW.out _ nb _ (y - x) (rs, rm, rn, re) hr hb45 hvs (by omega)) ?_; clear HLOW; rintro e w6 ⟨Bn, ln, cn, Bd, ld, cd, he, hvn, hvd2, hbl⟩; subst he; have hb46 := below_next (n := w4.heap.size) (w := w4) hbl hb45 rfl; have hS6 := hS4.below hb46; have c0' := hS6.qa.c0; have d0' := hS6.qb.c0; have kp1 := cell_other3 (k := w.heap.size + 1 + 1) c0' (by omega); have kp2 := cell_other3 (k := w.heap.size + 1 + 1) d0' (by omega); have r0' := hS6.qr.c0; have r1' := hS6.qr.c1; have r2' := hS6.qr.c2; have r3' := hS6.qr.fr 0; have r4' := hS6.qr.fr 1; have r5' := hS6.qr.fr 2))
      go_wp2_with fail
      change bodyPost _ _ _ Exit.ret _ (wroteQ w6 (w.heap.size + 1 + 1) rs (.slice Bn ln cn) (.slice Bd ld cd))
      have g1 := hS6.qr.write rs (.slice Bn ln cn) (.slice Bd ld cd)
      have g2 : Num (wroteQ w6 (w.heap.size + 1 + 1) rs (.slice Bn ln cn) (.slice Bd ld cd)) w6.heap.size (.slice Bn ln cn) rm := Lim.wroteQ hvn hS6.qr rs _ _
      have g3 : Num (wroteQ w6 (w.heap.size + 1 + 1) rs (.slice Bn ln cn) (.slice Bd ld cd)) w6.heap.size (.slice Bd ld cd) rn := Lim.wroteQ hvd2 hS6.qr rs _ _
      have g4 := wroteQ_below hS6.bl (show w.heap.size ≤ w.heap.size + 1 + 1 by omega) rs (.slice Bn ln cn) (.slice Bd ld cd)
      have g5 : w6.heap.size ≤ (wroteQ w6 (w.heap.size + 1 + 1) rs (.slice Bn ln cn) (.slice Bd ld cd)).heap.size := by simp [wroteQ, World.setCell]
      generalize wroteQ w6 (w.heap.size + 1 + 1) rs (.slice Bn ln cn) (.slice Bd ld cd) = W9 at g1 g2 g3 g4 g5 ⊢
      have k0 := g1.c0
      have k1 := g1.c1
      have k2 := g1.c2
      refine bodyPost_ret (v := .tuple #[.agg #[.bool rs, .slice Bn ln cn, .slice Bd ld cd], .int .i64 re]) ?_ rfl ⟨_, _, rfl, Lim.more g2 g5, Lim.more g3 g5, g4⟩
      simp [results, Tryz.results106, k0, k1, k2, go_sem]

    · rw [if_neg hlt] at hres
      have hr := hres.symm
      clear hres
      obtain ⟨rs, rm, rn, re⟩ := res
      obtain ⟨c, hcc, hc0⟩ : ∃ c : Int, cmpI x y = c ∧ 0 ≤ c := by
        rcases Nat.lt_or_ge y x with h2 | h2
        · exact ⟨1, cmpI_gt h2, by omega⟩
        · exact ⟨0, cmpI_eq (by omega), by omega⟩
      have hcmp := HCMP.out
      rw [hcc] at hcmp
      have HC2 := Lib.hid hcmp
      have qc1 : decide (c < 0) = false := decide_eq_false (by omega)
      clear hcmp hcc
      have HQ1 := Lib.hid (fun W hW => HDF1.out W hW (Nat.le_of_not_lt hlt))
      go_wp2_with fail
      refine HC2.out.mono ?_
      rintro e w4d ⟨he, hd4⟩
      subst he
      have hb44 := hd4.below
      have hS4d := hS4.below hb44
      have y0d := hS4d.qa.c0
      have y1d := hS4d.qb.c0
      go_wp2_with fail
      go_region_held3 (fun w' => w'.cell? ⟨w.heap.size, 0, none⟩ = some (.bool na) ∧ w'.cell? ⟨w.heap.size + 1, 0, none⟩ = some (.bool nb))
        (((try dsimp only); constructor <;> first | assumption | exact kp1 _ _ _ | exact kp2 _ _ _ | go_keep))
        (first
          | (go_at_call 96; refine Calls.mono (HQ1.out _ (by first | assumption | exact Below.drew hb44)) ?_; clear HQ1; rintro e w5 ⟨vs, he, hvs, hbs⟩; subst he; have hb45 := below_next (n := w4.heap.size) (w := w4) hbs (by first | assumption | exact Below.drew hb44) rfl; have hS5 := hS4.below hb45; have c0' := hS5.qa.c0; have d0' := hS5.qb.c0; have r0' := hS5.qr.c0; have r1' := hS5.qr.c1; have r2' := hS5.qr.c2; have r3' := hS5.qr.fr 0; have r4' := hS5.qr.fr 1; have r5' := hS5.qr.fr 2)
          | (go_at_call 110; refine Calls.mono (HLOW.out _ na _ (x - y) (rs, rm, rn, re) hr hb45 hvs (by omega)) ?_; clear HLOW; rintro e w6 ⟨Bn, ln, cn, Bd, ld, cd, he, hvn, hvd2, hbl⟩; subst he; have hb46 := below_next (n := w4.heap.size) (w := w4) hbl hb45 rfl; have hS6 := hS4.below hb46; have c0' := hS6.qa.c0; have d0' := hS6.qb.c0; have kp1 := cell_other3 (k := w.heap.size + 1 + 1) c0' (by omega); have kp2 := cell_other3 (k := w.heap.size + 1 + 1) d0' (by omega); have r0' := hS6.qr.c0; have r1' := hS6.qr.c1; have r2' := hS6.qr.c2; have r3' := hS6.qr.fr 0; have r4' := hS6.qr.fr 1; have r5' := hS6.qr.fr 2))
      go_wp2_with fail
      change bodyPost _ _ _ Exit.ret _ (wroteQ w6 (w.heap.size + 1 + 1) rs (.slice Bn ln cn) (.slice Bd ld cd))
      have g1 := hS6.qr.write rs (.slice Bn ln cn) (.slice Bd ld cd)
      have g2 : Num (wroteQ w6 (w.heap.size + 1 + 1) rs (.slice Bn ln cn) (.slice Bd ld cd)) w6.heap.size (.slice Bn ln cn) rm := Lim.wroteQ hvn hS6.qr rs _ _
      have g3 : Num (wroteQ w6 (w.heap.size + 1 + 1) rs (.slice Bn ln cn) (.slice Bd ld cd)) w6.heap.size (.slice Bd ld cd) rn := Lim.wroteQ hvd2 hS6.qr rs _ _
      have g4 := wroteQ_below hS6.bl (show w.heap.size ≤ w.heap.size + 1 + 1 by omega) rs (.slice Bn ln cn) (.slice Bd ld cd)
      have g5 : w6.heap.size ≤ (wroteQ w6 (w.heap.size + 1 + 1) rs (.slice Bn ln cn) (.slice Bd ld cd)).heap.size := by simp [wroteQ, World.setCell]
      generalize wroteQ w6 (w.heap.size + 1 + 1) rs (.slice Bn ln cn) (.slice Bd ld cd) = W9 at g1 g2 g3 g4 g5 ⊢
      have k0 := g1.c0
      have k1 := g1.c1
      have k2 := g1.c2
      refine bodyPost_ret (v := .tuple #[.agg #[.bool rs, .slice Bn ln cn, .slice Bd ld cd], .int .i64 re]) ?_ rfl ⟨_, _, rfl, Lim.more g2 g5, Lim.more g3 g5, g4⟩
      simp [results, Tryz.results106, k0, k1, k2, go_sem]

end Go.Proofs.YtlababdfdjjjaaaGreatDoor
namespace Go.Proofs.YtlababdfdjjjaaaGreatDoor
open Go.RowKit

def properW (neg : Bool) (ln ld : List Nat) : Bool := decide (examW [ln, ld] = 0) && !decide (val ld = 0) && !(neg && decide (val ln = 0)) && (Nat.gcd (val ln) (val ld) == 1)

set_option maxRecDepth 100000 in
set_option maxHeartbeats 4000000 in
theorem Proper_any (neg : Bool) (vn vd : Value) (ln ld : List Nat) (w : World) (ha : Arg w vn ln) (hb : Arg w vd ld) :
    Calls Tryz.prog 62 #[.agg #[.bool neg, vn, vd]] w fun e w' => e = .returned (.bool (properW neg ln ld)) ∧ Below w.heap.size w w' := by
  have hq := QB.new w neg vn vd
  obtain ⟨W0, hW0⟩ : ∃ W0, W0 = w.alloc (.cells #[.bool neg, vn, vd] 48) := ⟨_, rfl⟩
  have hb0 : Below w.heap.size w W0 := by rw [hW0]; exact (Below.refl _ _).alloc (Nat.le_refl _) _
  have ha0 := ha.up hb0
  have hd0 := hb.up hb0
  have hex := exam2 vn vd ln ld W0 ha0 hd0
  obtain ⟨W1, hW1⟩ : ∃ W1, W1 = W0.alloc (.cells #[vn, vd] 24) := ⟨_, rfl⟩
  have hb1 : Below W0.heap.size W0 W1 := by rw [hW1]; exact (Below.refl _ _).alloc (Nat.le_refl _) _
  have ha1 := ha0.up hb1
  have hd1 := hd0.up hb1
  rw [← hW0] at hq
  have hq1 := hq.below hb1 hq.lt
  have hb01 := hb0.trans (hb1.mono hb0.size)
  rw [← hW1] at hex
  have c1 := hq.c1
  have c2 := hq.c2
  have d0 := hq1.c0
  have d1 := hq1.c1
  have d2 := hq1.c2
  obtain ⟨A, ca, rfl, -⟩ := ha.1.form
  obtain ⟨B, cb, rfl, -⟩ := hb.1.form
  unfold properW
  have hsz : W0.heap.size = w.heap.size + 1 := by rw [hW0]; simp
  rw [hsz] at hex
  by_cases h : examW [ln, ld] = 0
  · obtain ⟨n1, n2, n3⟩ := ha1.num h (by simp)
    obtain ⟨m1, m2, m3⟩ := hd1.num h (by simp)
    have hz1 := isZero_any _ _ _ _ n1
    have hz2 := isZero_any _ _ _ _ m1
    have hcm := common_any _ _ _ _ _ n1 m1 (by omega) (by omega)
    obtain ⟨g, hg⟩ : ∃ g, g = Nat.gcd (val ln) (val ld) := ⟨_, rfl⟩
    rw [← hg] at hcm ⊢
    obtain ⟨og, hog⟩ : ∃ og, og = (g == 1) := ⟨_, rfl⟩
    have hon : ∀ W v, Num W W.heap.size v g → Calls Tryz.prog 112 #[v] W fun e w' => e = .returned (.bool og) ∧ W = w' := fun W v hv => by rw [hog, show (g == 1) = decide (g = 1) from rfl]; exact isOne_any v _ W _ hv
    rw [← hog, decide_eq_true h]
    rw [h] at hex
    obtain ⟨zn, hzn⟩ : ∃ zn, zn = decide (val ln = 0) := ⟨_, rfl⟩
    obtain ⟨zd, hzd⟩ : ∃ zd, zd = decide (val ld = 0) := ⟨_, rfl⟩
    rw [← hzn, ← hzd]
    rw [← hzn] at hz1
    rw [← hzd] at hz2
    clear hg hog hzn hzd
    have HEX := Lib.hid hex
    have HZ1 := Lib.hid hz1
    have HZ2 := Lib.hid hz2
    have HCM := Lib.hid hcm
    have HON := Lib.hid hon
    clear hex hz1 hz2 hcm hon ha hb ha0 hd0 ha1 hd1 n1 n2 n3 m1 m2 m3 h hq hq1
    subst hW0
    generalize ln.length = l1 at *
    generalize ld.length = l2 at *
    cases zd
    · cases neg
      · go_enter Tryz.func62, Tryz.ntmps62
        go_wp2_with fail
        simp only [← hW1]
        clear hW1
        refine HEX.out.mono ?_
        rintro e w2 ⟨he, rfl⟩
        subst he
        go_wp2_with fail
        refine HZ2.out.mono ?_
        rintro e w2 ⟨he, rfl⟩
        subst he
        go_wp2_with fail
        refine HCM.out.mono ?_
        rintro e w2 ⟨v2, he, hn2, hb2⟩
        subst he
        go_wp2_with fail
        refine (HON.out w2 v2 hn2).mono ?_
        rintro e w3 ⟨he, rfl⟩
        subst he
        go_wp2_with fail
        go_ret
        exact ⟨by cases og <;> rfl, hb01.trans (hb2.mono hb01.size)⟩

      · cases zn
        · go_enter Tryz.func62, Tryz.ntmps62
          go_wp2_with fail
          simp only [← hW1]
          clear hW1
          refine HEX.out.mono ?_
          rintro e w2 ⟨he, rfl⟩
          subst he
          go_wp2_with fail
          refine HZ2.out.mono ?_
          rintro e w2 ⟨he, rfl⟩
          subst he
          go_wp2_with fail
          refine HZ1.out.mono ?_
          rintro e w2 ⟨he, rfl⟩
          subst he
          go_wp2_with fail
          refine HCM.out.mono ?_
          rintro e w2 ⟨v2, he, hn2, hb2⟩
          subst he
          go_wp2_with fail
          refine (HON.out w2 v2 hn2).mono ?_
          rintro e w3 ⟨he, rfl⟩
          subst he
          go_wp2_with fail
          go_ret
          exact ⟨by cases og <;> rfl, hb01.trans (hb2.mono hb01.size)⟩

        · go_enter Tryz.func62, Tryz.ntmps62
          go_wp2_with fail
          simp only [← hW1]
          clear hW1
          refine HEX.out.mono ?_
          rintro e w2 ⟨he, rfl⟩
          subst he
          go_wp2_with fail
          refine HZ2.out.mono ?_
          rintro e w2 ⟨he, rfl⟩
          subst he
          go_wp2_with fail
          refine HZ1.out.mono ?_
          rintro e w2 ⟨he, rfl⟩
          subst he
          go_wp2_with fail
          go_ret
          exact ⟨rfl, hb01⟩

    · go_enter Tryz.func62, Tryz.ntmps62
      go_wp2_with fail
      simp only [← hW1]
      clear hW1
      refine HEX.out.mono ?_
      rintro e w2 ⟨he, rfl⟩
      subst he
      go_wp2_with fail
      refine HZ2.out.mono ?_
      rintro e w2 ⟨he, rfl⟩
      subst he
      go_wp2_with fail
      go_ret
      exact ⟨rfl, hb01⟩

  · rw [decide_eq_false h]
    obtain ⟨ec, hec⟩ : ∃ ec, ec = examW [ln, ld] := ⟨_, rfl⟩
    rw [← hec] at hex h
    have q1 : (ec == 0) = false := by simp [h]
    have q2 : (ec != 0) = true := by simp [h]
    have HEX := Lib.hid hex
    clear hex ha hb ha0 hd0 ha1 hd1 hec hq hq1 h
    subst hW0
    simp only [Bool.false_and]
    generalize ln.length = l1 at *
    generalize ld.length = l2 at *
    go_enter Tryz.func62, Tryz.ntmps62
    go_wp2_with fail
    simp only [← hW1]
    clear hW1
    refine HEX.out.mono ?_
    rintro e w2 ⟨he, rfl⟩
    subst he
    go_wp2_with fail
    go_ret
    exact ⟨rfl, hb01⟩
end Go.Proofs.YtlababdfdjjjaaaGreatDoor
namespace Go.Proofs.YtlababdfdjjjaaaGreatDoor
open Go.RowKit

/-- A fraction's limbs, whatever they are. -/
structure Fr where
  neg : Bool
  num : List Nat
  den : List Nat
def Fr.proper (f : Fr) : Bool := properW f.neg f.num f.den
def Fr.ex (f : Fr) : Int := examW [f.num, f.den]
def examQW (fs : List Fr) : Int := if fs.any (fun f => decide (f.ex = 3)) then 3 else if fs.any (fun f => !f.proper) then 2 else 0
theorem examQW_long {fs : List Fr} {k : Nat} {f : Fr} (h : fs[k]? = some f) (hl : f.ex = 3) : examQW fs = 3 := by
  unfold examQW
  rw [if_pos]
  rw [List.any_eq_true]
  exact ⟨f, List.mem_of_getElem? h, decide_eq_true hl⟩
theorem examQW_short {fs : List Fr} (h : ∀ (k : Nat) (f : Fr), k < fs.length → fs[k]? = some f → ¬ f.ex = 3) : examQW fs = if fs.any (fun f => !f.proper) then 2 else 0 := by
  unfold examQW
  rw [if_neg]
  rw [List.any_eq_true]
  rintro ⟨l, hl, hd⟩
  obtain ⟨k, hk⟩ := List.mem_iff_getElem?.1 hl
  exact h k l (List.getElem?_eq_some_iff.1 hk).1 hk (of_decide_eq_true hd)
/-- What a row of fractions holds. -/
def FrAt (W : World) (g k : Nat) (f : Fr) : Prop :=
  ∃ A n ca B m cb, W.cell? ⟨g, k * 3, none⟩ = some (.bool f.neg) ∧ W.cell? ⟨g, k * 3 + 1, none⟩ = some (.slice A n ca) ∧ W.cell? ⟨g, k * 3 + 2, none⟩ = some (.slice B m cb) ∧ Arg W (.slice A n ca) f.num ∧ Arg W (.slice B m cb) f.den
theorem FrAt.up {W W' : World} {g k : Nat} {f : Fr} (h : FrAt W g k f) (hg : g < W.heap.size) (hb : Below W.heap.size W W') : FrAt W' g k f := by
  obtain ⟨A, n, ca, B, m, cb, h1, h2, h3, h4, h5⟩ := h
  exact ⟨A, n, ca, B, m, cb, (hb.cell (p := ⟨g, k * 3, none⟩) hg).trans h1, (hb.cell (p := ⟨g, k * 3 + 1, none⟩) hg).trans h2, (hb.cell (p := ⟨g, k * 3 + 2, none⟩) hg).trans h3, h4.up hb, h5.up hb⟩

def EqRel (w : World) (fs : List Fr) (P : Fr → Prop) (i : Value) (wr : World) : Prop := ∃ k : Nat, k ≤ fs.length ∧ i = .int .i64 (k : Int) ∧ (∀ (j : Nat) (f : Fr), j < k → fs[j]? = some f → ¬ P f) ∧ Below w.heap.size w wr

set_option maxRecDepth 100000 in
set_option maxHeartbeats 4000000 in
theorem examineFractions_any (g cap : Nat) (fs : List Fr) (w : World) (hg : g < w.heap.size) (hn : fs.length ≤ 1000) (hf : ∀ (k : Nat) (f : Fr), fs[k]? = some f → FrAt w g k f) :
    Calls Tryz.prog 105 #[.slice (some ⟨g, 0, none⟩) fs.length cap] w fun e w' => e = .returned (.int .i64 (examQW fs)) ∧ Below w.heap.size w w' := by
  have HF := Lib.hid hf
  clear hf
  go_enter Tryz.func105, Tryz.ntmps105
  go_wp2_with fail
  go_loopw [9] (fun i wr => EqRel w fs (fun f => f.ex = 3) i wr) (fun i _ => fs.length - (intOf i).toNat)
  case atStart => exact ⟨0, Nat.zero_le _, rfl, (fun j l hj => by omega), Below.refl _ _⟩
  case round =>
    obtain ⟨k, hk, rfl, hno, hb⟩ := hrel
    by_cases hlt : k < fs.length
    · obtain ⟨f, h1⟩ : ∃ f, fs[k]? = some f := ⟨fs[k], List.getElem?_eq_getElem hlt⟩
      obtain ⟨A, n, ca, B, m, cb, c0, c1, c2, a1, a2⟩ := (HF.out k f h1).up hg hb
      have hklt : (k : Int) < (fs.length : Int) := by omega
      have hk0 : (0 : Int) ≤ (k : Int) := Int.natCast_nonneg _
      have hb0 : Below wr.heap.size wr (wr.alloc (.cells #[.bool f.neg, .slice A n ca, .slice B m cb] 48)) := (Below.refl _ _).alloc (Nat.le_refl _) _
      have hex := exam2 _ _ f.num f.den _ (a1.up hb0) (a2.up hb0)
      rw [World.size_alloc] at hex
      have hb1 : Below wr.heap.size wr ((wr.alloc (.cells #[.bool f.neg, .slice A n ca, .slice B m cb] 48)).alloc (.cells #[.slice A n ca, .slice B m cb] 24)) := hb0.alloc (by simp) _
      have hb2 := hb.trans (hb1.mono hb.size)
      obtain ⟨fx, hfx⟩ : ∃ fx, fx = examW [f.num, f.den] := ⟨_, rfl⟩
      rw [← hfx] at hex
      have hfe : f.ex = fx := hfx.symm
      have HEX := Lib.hid hex
      by_cases h3 : fx = 3
      · have hres := examQW_long h1 (hfe.trans h3)
        have HRES := Lib.hid hres
        have q1 : (fx == 3) = true := by rw [h3]; rfl
        subst h3
        clear hex hfx hfe hres hno h1 a1 a2 hb0 hb1
        go_wp2_with fail
        refine HEX.out.mono ?_
        rintro e w2 ⟨he, rfl⟩
        subst he
        go_wp2_with fail
        go_ret
        exact ⟨by rw [HRES.out]; rfl, hb2⟩
      · have hno' : ∀ (j : Nat) (f' : Fr), j < k + 1 → fs[j]? = some f' → ¬ f'.ex = 3 := by
          intro j f' hj hf'
          rcases Nat.lt_or_ge j k with h | h
          · exact hno j f' h hf'
          · have : j = k := by omega
            subst this
            rw [h1] at hf'
            cases hf'
            rw [hfe]; exact h3
        have HNO := Lib.hid hno'
        have q1 : (fx == 3) = false := by simp [h3]
        clear hex hfx hfe hno hno' h1 a1 a2 hb0 hb1 h3
        go_wp2_with fail
        refine HEX.out.mono ?_
        rintro e w2 ⟨he, rfl⟩
        subst he
        go_wp2_with fail
        first
          | exact ⟨⟨k + 1, by omega, by first | rfl | go_num, HNO.out, hb2⟩, by simp [intOf]; omega⟩
          | (go_roundw
             case rel => exact ⟨k + 1, by omega, by first | rfl | go_num, HNO.out, hb2⟩
             case measure => simp [intOf]; omega)
    · obtain rfl : k = fs.length := by omega
      have hsh := examQW_short hno
      have HSH := Lib.hid hsh
      clear hsh hno
      go_wp2_with fail
      go_loopw [23] (fun i wr' => EqRel w fs (fun f => f.proper = false) i wr') (fun i _ => fs.length - (intOf i).toNat)
      case atStart => exact ⟨0, Nat.zero_le _, rfl, (fun j l hj => by omega), hb⟩
      case round =>
        clear hk hb
        obtain ⟨k, hk, rfl, hno, hb⟩ := hrel
        by_cases hlt2 : k < fs.length
        · obtain ⟨f, h1⟩ : ∃ f, fs[k]? = some f := ⟨fs[k], List.getElem?_eq_getElem hlt2⟩
          obtain ⟨A, n, ca, B, m, cb, c0, c1, c2, a1, a2⟩ := (HF.out k f h1).up hg hb
          have hklt : (k : Int) < (fs.length : Int) := by omega
          have hk0 : (0 : Int) ≤ (k : Int) := Int.natCast_nonneg _
          have hb0 : Below wr.heap.size wr (wr.alloc (.cells #[.bool f.neg, .slice A n ca, .slice B m cb] 48)) := (Below.refl _ _).alloc (Nat.le_refl _) _
          have hpr := Proper_any f.neg _ _ f.num f.den _ (a1.up hb0) (a2.up hb0)
          obtain ⟨pf, hpf⟩ : ∃ pf, pf = properW f.neg f.num f.den := ⟨_, rfl⟩
          rw [← hpf] at hpr
          have hfp : f.proper = pf := hpf.symm
          have HPR := Lib.hid hpr
          have hb2 := hb.trans (hb0.mono hb.size)
          clear hpr hpf hb0 a1 a2
          cases pf
          · have hany : fs.any (fun f => !f.proper) = true := by
              rw [List.any_eq_true]
              exact ⟨f, List.mem_of_getElem? h1, by rw [hfp]; rfl⟩
            have hex := HSH.out
            rw [hany] at hex
            have HEX := Lib.hid hex
            clear hex hany hfp hno h1
            go_wp2_with fail
            refine HPR.out.mono ?_
            rintro e w2 ⟨he, hb3⟩
            subst he
            go_wp2_with fail
            go_ret
            exact ⟨by rw [HEX.out]; rfl, hb2.trans (hb3.mono hb2.size)⟩
          · have hno' : ∀ (j : Nat) (f' : Fr), j < k + 1 → fs[j]? = some f' → ¬ f'.proper = false := by
              intro j f' hj hf'
              rcases Nat.lt_or_ge j k with h | h
              · exact hno j f' h hf'
              · have : j = k := by omega
                subst this
                rw [h1] at hf'
                cases hf'
                rw [hfp]; decide
            have HNO := Lib.hid hno'
            clear hno hno' hfp h1
            go_wp2_with fail
            refine HPR.out.mono ?_
            rintro e w2 ⟨he, hb3⟩
            subst he
            have hb4 := hb2.trans (hb3.mono hb2.size)
            go_wp2_with fail
            first
              | exact ⟨⟨k + 1, by omega, by first | rfl | go_num, HNO.out, hb4⟩, by simp [intOf]; omega⟩
              | (go_roundw
                 case rel => exact ⟨k + 1, by omega, by first | rfl | go_num, HNO.out, hb4⟩
                 case measure => simp [intOf]; omega)
        · obtain rfl : k = fs.length := by omega
          have hany : fs.any (fun f => !f.proper) = false := by
            rw [List.any_eq_false]
            intro f hf
            obtain ⟨j, hj⟩ := List.mem_iff_getElem?.1 hf
            have := hno j f (List.getElem?_eq_some_iff.1 hj).1 hj
            simpa using this
          have hex := HSH.out
          rw [hany] at hex
          have HEX := Lib.hid hex
          clear hex hany hno
          go_wp2_with fail
          go_ret
          exact ⟨by rw [HEX.out]; rfl, hb⟩
end Go.Proofs.YtlababdfdjjjaaaGreatDoor
