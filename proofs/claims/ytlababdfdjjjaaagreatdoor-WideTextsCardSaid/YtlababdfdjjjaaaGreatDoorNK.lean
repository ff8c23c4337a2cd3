import Derived.Test.YtlababdfdjjjaaaGreatDoorNJ
namespace Go.Proofs.YtlababdfdjjjaaaGreatDoor
open Go.RowKit

theorem properW_ok {neg : Bool} {ln ld : List Nat} (h : properW neg ln ld = true) : examW [ln, ld] = 0 ∧ val ld ≠ 0 ∧ (neg = true → val ln ≠ 0) ∧ Nat.gcd (val ln) (val ld) = 1 := by
  unfold properW at h
  simp only [Bool.and_eq_true, decide_eq_true_eq, Bool.not_eq_true', decide_eq_false_iff_not, Bool.and_eq_false_iff, beq_iff_eq] at h
  obtain ⟨⟨⟨h1, h2⟩, h3⟩, h4⟩ := h
  refine ⟨h1, h2, fun hn => ?_, h4⟩
  rcases h3 with h3 | h3
  · rw [hn] at h3; cases h3
  · exact h3
theorem examQW_ok {fs : List Fr} (h : examQW fs = 0) : ∀ f ∈ fs, f.proper = true := by
  unfold examQW at h
  split at h
  · cases h
  · split at h
    · cases h
    · rename_i h2
      intro f hf
      rw [List.any_eq_true] at h2
      cases hp : f.proper
      · exact absurd ⟨f, hf, by rw [hp]; rfl⟩ h2
      · rfl
/-- A value that is a fraction, whatever its limbs. -/
def FrV (W : World) (f : Fr) (vn vd : Value) : Prop := Arg W vn f.num ∧ Arg W vd f.den
theorem FrV.up {W W' : World} {f : Fr} {vn vd : Value} (h : FrV W f vn vd) (hb : Below W.heap.size W W') : FrV W' f vn vd := ⟨h.1.up hb, h.2.up hb⟩
theorem FrV.ok {W : World} {f : Fr} {vn vd : Value} (h : FrV W f vn vd) (hp : f.proper = true) : Num W W.heap.size vn (val f.num) ∧ Num W W.heap.size vd (val f.den) ∧ val f.den ≠ 0 ∧ (dg (val f.num)).length ≤ 512 ∧ (dg (val f.den)).length ≤ 512 := by
  obtain ⟨h1, h2, -, -⟩ := properW_ok hp
  obtain ⟨a1, a2, -⟩ := h.1.num h1 (by simp)
  obtain ⟨b1, b2, -⟩ := h.2.num h1 (by simp)
  exact ⟨a1, b1, h2, a2, b2⟩
theorem examQ2 (f1 f2 : Fr) (n1 d1 n2 d2 : Value) (w : World) (h1 : FrV w f1 n1 d1) (h2 : FrV w f2 n2 d2) :
    Calls Tryz.prog 105 #[.slice (some ⟨w.heap.size, 0, none⟩) 2 2] (w.alloc (.cells #[.bool f1.neg, n1, d1, .bool f2.neg, n2, d2] 48)) fun e w' => e = .returned (.int .i64 (examQW [f1, f2])) ∧ Below (w.heap.size + 1) (w.alloc (.cells #[.bool f1.neg, n1, d1, .bool f2.neg, n2, d2] 48)) w' := by
  obtain ⟨W, hW⟩ : ∃ W, W = w.alloc (.cells #[.bool f1.neg, n1, d1, .bool f2.neg, n2, d2] 48) := ⟨_, rfl⟩
  have hb : Below w.heap.size w W := by rw [hW]; exact (Below.refl _ _).alloc (Nat.le_refl _) _
  have hrow : W.heap[w.heap.size]? = some (.cells #[.bool f1.neg, n1, d1, .bool f2.neg, n2, d2] 48 (0, 0)) := by rw [hW]; exact World.alloc_heap_new w _
  have hsz : W.heap.size = w.heap.size + 1 := by rw [hW]; simp
  rw [← hW]
  have g1 := h1.up hb
  have g2 := h2.up hb
  obtain ⟨A1, a1, rfl, -⟩ := g1.1.1.form
  obtain ⟨A2, a2, rfl, -⟩ := g1.2.1.form
  obtain ⟨A3, a3, rfl, -⟩ := g2.1.1.form
  obtain ⟨A4, a4, rfl, -⟩ := g2.2.1.form
  have h := examineFractions_any w.heap.size 2 [f1, f2] W (by omega) (by simp) (fun k f hk => by
    match k, hk with
    | 0, hk =>
      simp at hk; subst hk
      exact ⟨_, _, _, _, _, _, by rw [Go.Joins.cell_of_block hrow]; rfl, by rw [Go.Joins.cell_of_block hrow]; rfl, by rw [Go.Joins.cell_of_block hrow]; rfl, g1.1, g1.2⟩
    | 1, hk =>
      simp at hk; subst hk
      exact ⟨_, _, _, _, _, _, by rw [Go.Joins.cell_of_block hrow]; rfl, by rw [Go.Joins.cell_of_block hrow]; rfl, by rw [Go.Joins.cell_of_block hrow]; rfl, g2.1, g2.2⟩)
  rw [hsz] at h
  exact h
def qaddW (f1 f2 : Fr) : Bool × Nat × Nat × Int := if examQW [f1, f2] = 0 then fsumW f1.neg (val f1.num) (val f1.den) f2.neg (val f2.num) (val f2.den) else (false, 0, 0, examQW [f1, f2])
def ResF (w : World) (r : Bool × Nat × Nat × Int) (e : Ending) (w' : World) : Prop :=
  ∃ Bn ln cn Bd ld cd, e = .returned (.tuple #[.agg #[.bool r.1, .slice Bn ln cn, .slice Bd ld cd], .int .i64 r.2.2.2]) ∧ Num w' w'.heap.size (.slice Bn ln cn) r.2.1 ∧ Num w' w'.heap.size (.slice Bd ld cd) r.2.2.1 ∧ Below w.heap.size w w'
theorem ResW.forms {w w' : World} {r : Bool × Nat × Nat × Int} {e : Ending} (h : ResW w r e w') : ResF w r e w' := by
  obtain ⟨vn, vd, he, h1, h2, h3⟩ := h
  have f1 := h1.form
  have f2 := h2.form
  obtain ⟨Bn, cn, rfl, -⟩ := f1
  obtain ⟨Bd, cd, rfl, -⟩ := f2
  exact ⟨Bn, _, cn, Bd, _, cd, he, h1, h2, h3⟩

set_option maxRecDepth 100000 in
set_option maxHeartbeats 4000000 in
theorem QAdd_any (f1 f2 : Fr) (n1 d1 n2 d2 : Value) (w : World) (h1 : FrV w f1 n1 d1) (h2 : FrV w f2 n2 d2) :
    Calls Tryz.prog 49 #[.agg #[.bool f1.neg, n1, d1], .agg #[.bool f2.neg, n2, d2]] w (ResW w (qaddW f1 f2)) := by
  have hF : FSum w f1.neg n1 d1 f2.neg n2 d2 (((w.alloc (.cells #[.bool f1.neg, n1, d1] 48)).alloc (.cells #[.bool f2.neg, n2, d2] 48)).alloc (.cells #[.bool false, .slice none 0 0, .slice none 0 0] 48)) := by
    have b1 : Below w.heap.size w (w.alloc (.cells #[.bool f1.neg, n1, d1] 48)) := (Below.refl _ w).alloc (Nat.le_refl _) _
    have q1 := QB.new w f1.neg n1 d1
    have q2 := QB.new (w.alloc (.cells #[.bool f1.neg, n1, d1] 48)) f2.neg n2 d2
    have q3 := QB.new ((w.alloc (.cells #[.bool f1.neg, n1, d1] 48)).alloc (.cells #[.bool f2.neg, n2, d2] 48)) false (.slice none 0 0) (.slice none 0 0)
    have bA := fun (W : World) (o : Obj) => (Below.refl W.heap.size W).alloc (Nat.le_refl _) o
    rw [World.size_alloc] at q2
    rw [World.size_alloc, World.size_alloc] at q3
    exact ⟨(q1.below (bA _ _) q1.lt).below (bA _ _) (q1.below (bA _ _) q1.lt).lt, q2.below (bA _ _) q2.lt, q3, ((b1.alloc (by simp) _).alloc (by simp; omega) _)⟩
  obtain ⟨W, hW⟩ : ∃ W, W = (((w.alloc (.cells #[.bool f1.neg, n1, d1] 48)).alloc (.cells #[.bool f2.neg, n2, d2] 48)).alloc (.cells #[.bool false, .slice none 0 0, .slice none 0 0] 48)) := ⟨_, rfl⟩
  rw [← hW] at hF
  have hsz : W.heap.size = w.heap.size + 1 + 1 + 1 := by rw [hW]; simp
  have hex := examQ2 f1 f2 n1 d1 n2 d2 W (h1.up hF.bl) (h2.up hF.bl)
  have hbA : Below W.heap.size W (W.alloc (.cells #[.bool f1.neg, n1, d1, .bool f2.neg, n2, d2] 48)) := (Below.refl _ _).alloc (Nat.le_refl _) _
  have hSA := hF.below hbA
  have hszA : (W.alloc (.cells #[.bool f1.neg, n1, d1, .bool f2.neg, n2, d2] 48)).heap.size = w.heap.size + 1 + 1 + 1 + 1 := by rw [World.size_alloc, hsz]
  rw [hsz] at hex
  replace hex := hex.mono (fun e w' (h : e = .returned (.int .i64 (examQW [f1, f2])) ∧ _) => (⟨h.1, hSA.below (by rw [hszA]; exact h.2)⟩ : e = .returned (.int .i64 (examQW [f1, f2])) ∧ FSum w f1.neg n1 d1 f2.neg n2 d2 w'))
  have hfs : examQW [f1, f2] = 0 → ∀ W', Below w.heap.size w W' → Calls Tryz.prog 106 #[.agg #[.bool f1.neg, n1, d1], .agg #[.bool f2.neg, n2, d2]] W' (ResF W' (fsumW f1.neg (val f1.num) (val f1.den) f2.neg (val f2.num) (val f2.den))) := by
    intro h0 W' hW'
    have p1 := examQW_ok h0 f1 (by simp)
    have p2 := examQW_ok h0 f2 (by simp)
    obtain ⟨a1, a2, a3, a4, a5⟩ := (h1.up hW').ok p1
    obtain ⟨b1, b2, b3, b4, b5⟩ := (h2.up hW').ok p2
    exact (fractionSum_any f1.neg f2.neg n1 d1 n2 d2 _ _ _ _ W' a1 a2 b1 b2 a3 b3 (by omega) (by omega) (by omega) (by omega)).mono (fun e w' h => h.forms)
  have c0 := hF.qa.c0
  have c1 := hF.qa.c1
  have c2 := hF.qa.c2
  have d0 := hF.qb.c0
  have d1' := hF.qb.c1
  have d2' := hF.qb.c2
  have fn1 := h1.1.1.form
  have fd1 := h1.2.1.form
  have fn2 := h2.1.1.form
  have fd2 := h2.2.1.form
  obtain ⟨A1, e1, rfl, -⟩ := fn1
  obtain ⟨A2, e2, rfl, -⟩ := fd1
  obtain ⟨A3, e3, rfl, -⟩ := fn2
  obtain ⟨A4, e4, rfl, -⟩ := fd2
  unfold qaddW
  generalize fsumW f1.neg (val f1.num) (val f1.den) f2.neg (val f2.num) (val f2.den) = fr at *
  generalize examQW [f1, f2] = ec at *
  have HEX := Lib.hid hex
  have HFS := Lib.hid hfs
  clear hex hfs hSA hszA hsz hF hbA h1 h2
  generalize f1.neg = s1 at *
  generalize f2.neg = s2 at *
  generalize f1.num.length = l1 at *
  generalize f1.den.length = l2 at *
  generalize f2.num.length = l3 at *
  generalize f2.den.length = l4 at *
  by_cases h0 : ec = 0
  · subst h0
    rw [if_pos rfl]
    obtain ⟨rs, rm, rn, re⟩ := fr
    subst hW
    go_enter Tryz.func49, Tryz.ntmps49
    go_wp2_with fail
    refine HEX.out.mono ?_
    rintro e w2 ⟨he, hS2⟩
    subst he
    have x0 := hS2.qa.c0
    have x1 := hS2.qa.c1
    have x2 := hS2.qa.c2
    have y0 := hS2.qb.c0
    have y1 := hS2.qb.c1
    have y2 := hS2.qb.c2
    have r0 := hS2.qr.c0
    have r1 := hS2.qr.c1
    have r2 := hS2.qr.c2
    have r3 := hS2.qr.fr 0
    have r4 := hS2.qr.fr 1
    have r5 := hS2.qr.fr 2
    have hcall := HFS.out (by trivial) w2 hS2.bl
    have HCALL := Lib.hid hcall
    clear hcall
    go_wp2_with fail
    refine HCALL.out.mono ?_
    rintro e w6 ⟨Bn, ln, cn, Bd, ld, cd, he, hvn, hvd2, hbl⟩
    subst he
    have hS6 := hS2.below hbl
    have z0 := hS6.qr.c0
    have z1 := hS6.qr.c1
    have z2 := hS6.qr.c2
    have z3 := hS6.qr.fr 0
    have z4 := hS6.qr.fr 1
    have z5 := hS6.qr.fr 2
    go_wp2_with fail
    change bodyPost _ _ _ Exit.ret _ (wroteQ w6 (w.heap.size + 1 + 1) rs (.slice Bn ln cn) (.slice Bd ld cd))
    have g1 := hS6.qr.write rs (.slice Bn ln cn) (.slice Bd ld cd)
    have g2 : Num (wroteQ w6 (w.heap.size + 1 + 1) rs (.slice Bn ln cn) (.slice Bd ld cd)) w6.heap.size (.slice Bn ln cn) rm := Lim.wroteQ hvn hS6.qr rs _ _
    have g3 : Num (wroteQ w6 (w.heap.size + 1 + 1) rs (.slice Bn ln cn) (.slice Bd ld cd)) w6.heap.size (.slice Bd ld cd) rn := Lim.wroteQ hvd2 hS6.qr rs _ _
    have g4 := wroteQ_below hS6.bl (show w.heap.size ≤ w.heap.size + 1 + 1 by omega) rs (.slice Bn ln cn) (.slice Bd ld cd)
    have g5 : w6.heap.size ≤ (wroteQ w6 (w.heap.size + 1 + 1) rs (.slice Bn ln cn) (.slice Bd ld cd)).heap.size := by simp [wroteQ, World.setCell]
    generalize wroteQ w6 (w.heap.size + 1 + 1) rs (.slice Bn ln cn) (.slice Bd ld cd) = W9 at g1 g2 g3 g4 g5 ⊢
    have k0 := g1.c0
    have k1 := g1.c1
    have k2 := g1.c2
    refine bodyPost_ret (v := .tuple #[.agg #[.bool rs, .slice Bn ln cn, .slice Bd ld cd], .int .i64 re]) ?_ rfl ⟨_, _, rfl, Lim.more g2 g5, Lim.more g3 g5, g4⟩
    simp [results, Tryz.results49, k0, k1, k2, go_sem]
  · rw [if_neg h0]
    have q1 : (ec == 0) = false := by simp [h0]
    have q2 : (ec != 0) = true := by simp [h0]
    subst hW
    clear h0
    go_enter Tryz.func49, Tryz.ntmps49
    go_wp2_with fail
    refine HEX.out.mono ?_
    rintro e w2 ⟨he, hS2⟩
    subst he
    have x0 := hS2.qa.c0
    have x1 := hS2.qa.c1
    have x2 := hS2.qa.c2
    have y0 := hS2.qb.c0
    have y1 := hS2.qb.c1
    have y2 := hS2.qb.c2
    have r0 := hS2.qr.c0
    have r1 := hS2.qr.c1
    have r2 := hS2.qr.c2
    have r3 := hS2.qr.fr 0
    have r4 := hS2.qr.fr 1
    have r5 := hS2.qr.fr 2
    go_wp2_with fail
    change bodyPost _ _ _ Exit.ret _ (wroteQ w2 (w.heap.size + 1 + 1) false (.slice none 0 0) (.slice none 0 0))
    have g1 := hS2.qr.write false (.slice none 0 0) (.slice none 0 0)
    have g4 := wroteQ_below hS2.bl (show w.heap.size ≤ w.heap.size + 1 + 1 by omega) false (.slice none 0 0) (.slice none 0 0)
    generalize wroteQ w2 (w.heap.size + 1 + 1) false (.slice none 0 0) (.slice none 0 0) = W9 at g1 g4 ⊢
    have k0 := g1.c0
    have k1 := g1.c1
    have k2 := g1.c2
    refine bodyPost_ret (v := .tuple #[.agg #[.bool false, .slice none 0 0, .slice none 0 0], .int .i64 ec]) ?_ rfl ⟨_, _, rfl, Num.zero _ _, Num.zero _ _, g4⟩
    simp [results, Tryz.results49, k0, k1, k2, go_sem]
end Go.Proofs.YtlababdfdjjjaaaGreatDoor
namespace Go.Proofs.YtlababdfdjjjaaaGreatDoor
open Go.RowKit

theorem examQ1 (f1 : Fr) (n1 d1 : Value) (w : World) (h1 : FrV w f1 n1 d1) :
    Calls Tryz.prog 105 #[.slice (some ⟨w.heap.size, 0, none⟩) 1 1] (w.alloc (.cells #[.bool f1.neg, n1, d1] 48)) fun e w' => e = .returned (.int .i64 (examQW [f1])) ∧ Below (w.heap.size + 1) (w.alloc (.cells #[.bool f1.neg, n1, d1] 48)) w' := by
  obtain ⟨W, hW⟩ : ∃ W, W = w.alloc (.cells #[.bool f1.neg, n1, d1] 48) := ⟨_, rfl⟩
  have hb : Below w.heap.size w W := by rw [hW]; exact (Below.refl _ _).alloc (Nat.le_refl _) _
  have hrow : W.heap[w.heap.size]? = some (.cells #[.bool f1.neg, n1, d1] 48 (0, 0)) := by rw [hW]; exact World.alloc_heap_new w _
  have hsz : W.heap.size = w.heap.size + 1 := by rw [hW]; simp
  rw [← hW]
  have g1 := h1.up hb
  obtain ⟨A1, a1, rfl, -⟩ := g1.1.1.form
  obtain ⟨A2, a2, rfl, -⟩ := g1.2.1.form
  have h := examineFractions_any w.heap.size 1 [f1] W (by omega) (by simp) (fun k f hk => by
    match k, hk with
    | 0, hk =>
      simp at hk; subst hk
      exact ⟨_, _, _, _, _, _, by rw [Go.Joins.cell_of_block hrow]; rfl, by rw [Go.Joins.cell_of_block hrow]; rfl, by rw [Go.Joins.cell_of_block hrow]; rfl, g1.1, g1.2⟩)
  rw [hsz] at h
  exact h
def qfloorW (f : Fr) : Bool × Nat × Int := if examQW [f] = 0 then (f.neg, (if f.neg = true ∧ val f.num % val f.den ≠ 0 then val f.num / val f.den + 1 else val f.num / val f.den), 0) else (false, 0, examQW [f])
def ResFl (w : World) (r : Bool × Nat × Int) (e : Ending) (w' : World) : Prop := ∃ v, e = .returned (.tuple #[.bool r.1, v, .int .i64 r.2.2]) ∧ Num w' w'.heap.size v r.2.1 ∧ Below w.heap.size w w'

set_option maxRecDepth 100000 in
set_option maxHeartbeats 4000000 in
theorem QFloor_any (f : Fr) (vn vd : Value) (w : World) (h1 : FrV w f vn vd) :
    Calls Tryz.prog 60 #[.agg #[.bool f.neg, vn, vd]] w (ResFl w (qfloorW f)) := by
  have hq := QB.new w f.neg vn vd
  obtain ⟨W, hW⟩ : ∃ W, W = w.alloc (.cells #[.bool f.neg, vn, vd] 48) := ⟨_, rfl⟩
  rw [← hW] at hq
  have hb0 : Below w.heap.size w W := by rw [hW]; exact (Below.refl _ _).alloc (Nat.le_refl _) _
  have hsz : W.heap.size = w.heap.size + 1 := by rw [hW]; simp
  have hex := examQ1 f vn vd W (h1.up hb0)
  have hbA : Below W.heap.size W (W.alloc (.cells #[.bool f.neg, vn, vd] 48)) := (Below.refl _ _).alloc (Nat.le_refl _) _
  replace hex := hex.mono (fun e w' (h : e = .returned (.int .i64 (examQW [f])) ∧ _) => (⟨h.1, hq.below (hbA.trans (h.2.mono (Nat.le_succ _))) hq.lt, hb0.trans ((hbA.trans (h.2.mono (Nat.le_succ _))).mono hb0.size)⟩ : e = .returned (.int .i64 (examQW [f])) ∧ QB w' w.heap.size f.neg vn vd ∧ Below w.heap.size w w'))
  rw [hsz] at hex
  have c0 := hq.c0
  have c1 := hq.c1
  have c2 := hq.c2
  have hdv : examQW [f] = 0 → ∀ W', Below w.heap.size w W' → Calls Tryz.prog 98 #[vn, vd] W' (fun e w' => ∃ A n c r, e = .returned (.tuple #[.slice A n c, r]) ∧ Num w' w'.heap.size (.slice A n c) (val f.num / val f.den) ∧ Num w' w'.heap.size r (val f.num % val f.den) ∧ Below W'.heap.size W' w') := by
    intro h0 W' hW'
    obtain ⟨a1, a2, a3, a4, a5⟩ := (h1.up hW').ok (examQW_ok h0 f (by simp))
    refine (divide_any vn vd _ _ W' a1 a2 (by omega) a3).mono ?_
    rintro e w' ⟨q, r, he, hq, hr, hb⟩
    obtain ⟨A, c, rfl, -⟩ := hq.form
    exact ⟨A, _, c, r, he, hq, hr, hb⟩
  have hlen : examQW [f] = 0 → (dg (val f.num / val f.den)).length ≤ 512 := by
    intro h0
    obtain ⟨a1, a2, a3, a4, a5⟩ := h1.ok (examQW_ok h0 f (by simp))
    exact Nat.le_trans (dg_mono (Nat.div_le_self _ _)) a4
  have fn1 := h1.1.1.form
  have fd1 := h1.2.1.form
  obtain ⟨A1, e1, rfl, -⟩ := fn1
  obtain ⟨A2, e2, rfl, -⟩ := fd1
  unfold qfloorW
  generalize val f.num / val f.den = Q at *
  generalize val f.num % val f.den = R at *
  generalize examQW [f] = ec at *
  have HEX := Lib.hid hex
  have HDV := Lib.hid hdv
  have HLEN := Lib.hid hlen
  clear hex hdv hlen hq hbA h1 hb0 hsz
  generalize f.neg = s1 at *
  generalize f.num.length = l1 at *
  generalize f.den.length = l2 at *
  by_cases h0 : ec = 0
  · subst h0
    rw [if_pos rfl]
    obtain ⟨res, hres⟩ : ∃ res, res = (if s1 = true ∧ R ≠ 0 then Q + 1 else Q) := ⟨_, rfl⟩
    rw [← hres]
    have HRES := Lib.hid hres
    clear hres
    subst hW
    go_enter Tryz.func60, Tryz.ntmps60
    go_wp2_with fail
    refine HEX.out.mono ?_
    rintro e w2 ⟨he, hq2, hb2⟩
    subst he
    have x0 := hq2.c0
    have x1 := hq2.c1
    have x2 := hq2.c2
    have hdv := Lib.hid (HDV.out (by trivial) w2 hb2)
    go_wp2_with fail
    refine hdv.out.mono ?_
    rintro e w3 ⟨A, n, c, r, he, hQ, hR, hb3⟩
    subst he
    have hq3 := hq2.below hb3 hq2.lt
    have hb23 := hb2.trans (hb3.mono hb2.size)
    have y0 := hq3.c0
    have hz := isZero_any _ _ _ _ hR
    have fr := hR.form
    obtain ⟨A', c', rfl, -⟩ := fr
    have HZ := Lib.hid hz
    clear hz
    generalize (dg R).length = lr at *
    cases s1
    · have hres := HRES.out
      rw [if_neg (by simp)] at hres
      subst hres
      go_wp2_with fail
      go_ret3
      exact ⟨_, rfl, hQ, hb23⟩
    · by_cases hR0 : R = 0
      · have hz := HZ.out
        rw [decide_eq_true hR0] at hz
        have HZ2 := Lib.hid hz
        have hres := HRES.out
        rw [if_neg (by simp [hR0])] at hres
        subst hres
        clear hz
        go_wp2_with fail
        refine HZ2.out.mono ?_
        rintro e w4 ⟨he, rfl⟩
        subst he
        go_wp2_with fail
        go_ret3
        exact ⟨_, rfl, hQ, hb23⟩
      · have hz := HZ.out
        rw [decide_eq_false hR0] at hz
        have HZ2 := Lib.hid hz
        have hres := HRES.out
        rw [if_pos ⟨rfl, hR0⟩] at hres
        have hone := one_new w3
        have hbo : Below w3.heap.size w3 (w3.alloc (.cells #[.int .u32 1] 64)) := (Below.refl _ _).alloc (Nat.le_refl _) _
        have hsm := sum_any _ _ _ _ _ (Lim.up hQ hbo) (show Lim (w3.alloc (.cells #[.int .u32 1] 64)) (w3.alloc (.cells #[.int .u32 1] 64)).heap.size _ (dg 1) by rw [World.size_alloc]; exact hone) (by have := HLEN.out (by trivial); omega) (by rw [dg_one]; simp)
        rw [val_dg, val_dg, ← hres] at hsm
        have hq4 := hq3.below hbo hq3.lt
        have y1 := hq4.c0
        have HSM := Lib.hid hsm
        clear hz hsm hres hone
        go_wp2_with fail
        refine HZ2.out.mono ?_
        rintro e w4 ⟨he, rfl⟩
        subst he
        go_wp2_with fail
        refine HSM.out.mono ?_
        rintro e w5 ⟨v5, he, hn5, hb5⟩
        subst he
        have hq5 := hq4.below hb5 hq4.lt
        have y2 := hq5.c0
        go_wp2_with fail
        go_ret3
        exact ⟨v5, rfl, hn5, hb23.trans ((hbo.trans (hb5.mono hbo.size)).mono hb23.size)⟩
  · rw [if_neg h0]
    have q1 : (ec == 0) = false := by simp [h0]
    have q2 : (ec != 0) = true := by simp [h0]
    subst hW
    clear h0
    go_enter Tryz.func60, Tryz.ntmps60
    go_wp2_with fail
    refine HEX.out.mono ?_
    rintro e w2 ⟨he, hq2, hb2⟩
    subst he
    go_wp2_with fail
    go_ret3
    exact ⟨.slice none 0 0, rfl, Num.zero _ _, hb2⟩
end Go.Proofs.YtlababdfdjjjaaaGreatDoor
namespace Go.Proofs.YtlababdfdjjjaaaGreatDoor
open Go.RowKit

def SmRel (w : World) (a b : List Nat) (i : Value) (wr : World) : Prop := ∃ k : Nat, k ≤ a.length ∧ i = .int .i64 (k : Int) ∧ a.take k = b.take k ∧ Drawn w wr

set_option maxRecDepth 100000 in
set_option maxHeartbeats 2000000 in
theorem same_any (va vb : Value) (a b : List Nat) (w : World) (ha : Arg w va a) (hb : Arg w vb b) :
    Calls Tryz.prog 20 #[va, vb] w fun e w' => e = .returned (.bool (decide (a = b))) ∧ Drawn w w' := by
  obtain ⟨A, capa, rfl, -⟩ := ha.1.form
  obtain ⟨B, capb, rfl, -⟩ := hb.1.form
  by_cases hl : a.length = b.length
  · have HA := Lib.hid ha.1
    have HB := Lib.hid hb.1
    have hal := ha.2
    have q1 : ((a.length : Int) == (b.length : Int)) = true := by simp [hl]
    have q2 : ((a.length : Int) != (b.length : Int)) = false := by simp [hl]
    have hl2 : a.length ≤ b.length := by omega
    have hl3 : b.length ≤ a.length := by omega
    have HL := Lib.hid hl
    clear ha hb hl
    go_enter Tryz.func20, Tryz.ntmps20
    go_wp2_with fail
    go_loopw [5] (fun i wr => SmRel w a b i wr) (fun i _ => a.length - (intOf i).toNat)
    case atStart => exact ⟨0, Nat.zero_le _, rfl, rfl, Drawn.refl w⟩
    case round =>
      obtain ⟨k, hk, rfl, htk, hdr⟩ := hrel
      have HTK := Lib.hid htk
      clear htk
      by_cases hlt : k < a.length
      · obtain ⟨x, hx⟩ : ∃ x, a[k]? = some x := ⟨a[k]'(by omega), List.getElem?_eq_getElem (by omega)⟩
        obtain ⟨y, hy⟩ : ∃ y, b[k]? = some y := ⟨b[k]'(by omega), List.getElem?_eq_getElem (by omega)⟩
        obtain ⟨g, o, rfl, hg, c0⟩ := HA.out.cell hx
        obtain ⟨g', o', rfl, hg', d0⟩ := HB.out.cell hy
        obtain ⟨q, rfl⟩ := hdr
        have hbb := below_drewN w q
        have c0 := (hbb.cell (p := ⟨g, o + k, none⟩) hg).trans c0
        have d0 := (hbb.cell (p := ⟨g', o' + k, none⟩) hg').trans d0
        have i1 : (0 : Int) ≤ (k : Int) := Int.natCast_nonneg _
        have i2 : (k : Int) < (a.length : Int) := by omega
        have i3 : (k : Int) < (b.length : Int) := by omega
        have HX := Lib.hid hx
        have HY := Lib.hid hy
        clear hx hy hbb
        by_cases hxy : x = y
        · subst hxy
          have HS := Lib.hid (show a.take (k + 1) = b.take (k + 1) by rw [take_snoc' a k x HX.out, take_snoc' b k x HY.out, HTK.out])
          have p2 : ((x : Int) != (x : Int)) = false := by simp
          go_wp2
          go_quiet (fail)
          go_wp2
          first
            | exact ⟨⟨k + 1, by omega, by first | rfl | go_num, HS.out, ⟨_, drewN_drewN _ _ _⟩⟩, by simp [intOf]; omega⟩
            | (go_roundw
               case rel => exact ⟨k + 1, by omega, by first | rfl | go_num, HS.out, ⟨_, by first | rfl | exact drewN_drewN _ _ _⟩⟩
               case measure => simp [intOf]; omega)
        · have p1 : ((x : Int) == (y : Int)) = false := beq_false_of_ne (by omega)
          have p2 : ((x : Int) != (y : Int)) = true := by simp; omega
          have hne : decide (a = b) = false := decide_eq_false (fun h => by
            have h1 := HX.out
            have h2 := HY.out
            rw [h, h2] at h1
            injection h1 with h1
            exact hxy h1.symm)
          have HNE := Lib.hid hne
          clear hne hxy
          go_wp2
          go_quiet (fail)
          go_wp2
          go_ret
          exact ⟨by rw [HNE.out]; rfl, ⟨_, by first | rfl | exact drewN_drewN _ _ _⟩⟩
      · obtain rfl : k = a.length := by omega
        have heq : decide (a = b) = true := decide_eq_true (by
          have h := HTK.out
          rw [List.take_length, HL.out, List.take_length] at h
          exact h)
        have HEQ := Lib.hid heq
        clear heq
        go_wp2
        go_ret
        exact ⟨by rw [HEQ.out]; rfl, hdr⟩
  · have q1 : ((a.length : Int) == (b.length : Int)) = false := beq_false_of_ne (by omega)
    have q2 : ((a.length : Int) != (b.length : Int)) = true := by simp; omega
    have hne : decide (a = b) = false := decide_eq_false (fun h => hl (by rw [h]))
    rw [hne]
    clear ha hb hl hne
    generalize a.length = l1 at *
    generalize b.length = l2 at *
    go_enter Tryz.func20, Tryz.ntmps20
    go_wp2_with fail
    go_ret
    exact ⟨rfl, Drawn.refl w⟩
end Go.Proofs.YtlababdfdjjjaaaGreatDoor
namespace Go.Proofs.YtlababdfdjjjaaaGreatDoor
open Go.RowKit

def validW (l : List Nat) : Bool := decide (l.length ≤ 512) && !decide (l.getLast? = some 0)
theorem validW_ex (l : List Nat) : decide (examW [l] = 0) = validW l := by
  unfold validW examW
  by_cases h1 : 512 < l.length
  · simp [h1, Nat.not_le.2 h1]
  · by_cases h2 : l.getLast? = some 0
    · simp [h1, h2]
    · simp [h1, h2]; omega

set_option maxRecDepth 100000 in
set_option maxHeartbeats 2000000 in
theorem rValid_any (va : Value) (l : List Nat) (w : World) (ha : Arg w va l) :
    Calls Tryz.prog 19 #[va] w fun e w' => e = .returned (.bool (validW l)) ∧ Drawn w w' := by
  obtain ⟨A, capa, rfl, -⟩ := ha.1.form
  by_cases h1 : 512 < l.length
  · have hv : validW l = false := by unfold validW; simp [Nat.not_le.2 h1]
    rw [hv]
    have h1i : ¬ (l.length : Int) ≤ 512 := by omega
    have h1d : decide ((l.length : Int) ≤ 512) = false := decide_eq_false h1i
    clear ha hv
    generalize l.length = n at *
    go_enter Tryz.func19, Tryz.ntmps19
    go_wp2_with fail
    first
      | (go_ret; exact ⟨rfl, Drawn.refl w⟩)
      | (go_quiet (fail); go_wp2_with fail; go_ret; exact ⟨rfl, ⟨_, rfl⟩⟩)
  · have h1i : (l.length : Int) ≤ 512 := by omega
    rcases Nat.eq_zero_or_pos l.length with hz | hz
    · have hnil := List.eq_nil_of_length_eq_zero hz
      subst hnil
      clear ha
      have hv : validW [] = true := rfl
      rw [hv]
      simp only [List.length_nil]
      go_enter Tryz.func19, Tryz.ntmps19
      go_wp2_with fail
      first
        | (go_ret; exact ⟨rfl, Drawn.refl w⟩)
        | (go_quiet (fail); go_wp2_with fail; go_ret; exact ⟨rfl, ⟨_, rfl⟩⟩)
    · obtain ⟨n, hn1⟩ : ∃ n, l.length = n + 1 := ⟨l.length - 1, by omega⟩
      obtain ⟨x, hx⟩ : ∃ x, l[n]? = some x := ⟨l[n]'(by omega), List.getElem?_eq_getElem (by omega)⟩
      obtain ⟨g, o, rfl, hg, c0⟩ := ha.1.cell hx
      have hlast : l.getLast? = some x := by rw [List.getLast?_eq_getElem?, hn1, Nat.add_sub_cancel]; exact hx
      have hv : validW l = !decide (x = 0) := by unfold validW; rw [hlast]; simp; omega
      have hx1 := Lim.lt ha.1.2 hx
      rw [hv, hn1]
      rw [hn1] at h1i h1
      clear ha hx hlast hv hn1 hz
      by_cases hx0 : x = 0
      · subst hx0
        go_enter Tryz.func19, Tryz.ntmps19
        go_wp2_with fail
        first
          | (go_ret; exact ⟨rfl, Drawn.refl w⟩)
          | (go_quiet (fail); go_wp2_with fail; go_ret; exact ⟨rfl, ⟨_, rfl⟩⟩)
      · have q1 : ((x : Int) == 0) = false := by simp [hx0]
        have q2 : ((x : Int) != 0) = true := by simp [hx0]
        rw [decide_eq_false hx0]
        go_enter Tryz.func19, Tryz.ntmps19
        go_wp2_with fail
        first
          | (go_ret; exact ⟨rfl, Drawn.refl w⟩)
          | (go_quiet (fail); go_wp2_with fail; go_ret; exact ⟨rfl, ⟨_, rfl⟩⟩)
end Go.Proofs.YtlababdfdjjjaaaGreatDoor
namespace Go.Proofs.YtlababdfdjjjaaaGreatDoor
open Go.RowKit

def sameQ (f1 f2 : Fr) : Bool := (f1.neg == f2.neg) && decide (f1.num = f2.num) && decide (f1.den = f2.den)

set_option maxRecDepth 100000 in
set_option maxHeartbeats 2000000 in
theorem sameQuo_any (f1 f2 : Fr) (n1 d1 n2 d2 : Value) (w : World) (h1 : FrV w f1 n1 d1) (h2 : FrV w f2 n2 d2) :
    Calls Tryz.prog 53 #[.agg #[.bool f1.neg, n1, d1], .agg #[.bool f2.neg, n2, d2]] w fun e w' => e = .returned (.bool (sameQ f1 f2)) ∧ Below w.heap.size w w' := by
  have q1 := QB.new w f1.neg n1 d1
  have q2 := QB.new (w.alloc (.cells #[.bool f1.neg, n1, d1] 48)) f2.neg n2 d2
  have bA := fun (W : World) (o : Obj) => (Below.refl W.heap.size W).alloc (Nat.le_refl _) o
  rw [World.size_alloc] at q2
  have q1' := q1.below (bA _ (.cells #[.bool f2.neg, n2, d2] 48)) q1.lt
  have hb : Below w.heap.size w ((w.alloc (.cells #[.bool f1.neg, n1, d1] 48)).alloc (.cells #[.bool f2.neg, n2, d2] 48)) := (bA w _).alloc (by simp) _
  have hsn : ∀ W, Below w.heap.size w W → Calls Tryz.prog 20 #[n1, n2] W fun e w' => e = .returned (.bool (decide (f1.num = f2.num))) ∧ Drawn W w' := fun W hW => same_any _ _ _ _ W (h1.up hW).1 (h2.up hW).1
  have hsd : ∀ W, Below w.heap.size w W → Calls Tryz.prog 20 #[d1, d2] W fun e w' => e = .returned (.bool (decide (f1.den = f2.den))) ∧ Drawn W w' := fun W hW => same_any _ _ _ _ W (h1.up hW).2 (h2.up hW).2
  obtain ⟨W, hW⟩ : ∃ W, W = ((w.alloc (.cells #[.bool f1.neg, n1, d1] 48)).alloc (.cells #[.bool f2.neg, n2, d2] 48)) := ⟨_, rfl⟩
  rw [← hW] at q1' q2 hb
  obtain ⟨A1, e1, rfl, -⟩ := h1.1.1.form
  obtain ⟨A2, e2, rfl, -⟩ := h1.2.1.form
  obtain ⟨A3, e3, rfl, -⟩ := h2.1.1.form
  obtain ⟨A4, e4, rfl, -⟩ := h2.2.1.form
  have c0 := q1'.c0
  have c1 := q1'.c1
  have c2 := q1'.c2
  have d0 := q2.c0
  have d1 := q2.c1
  have d2 := q2.c2
  have hk : ∀ W2, Drawn W W2 → QB W2 w.heap.size f1.neg (.slice A1 f1.num.length e1) (.slice A2 f1.den.length e2) ∧ QB W2 (w.heap.size + 1) f2.neg (.slice A3 f2.num.length e3) (.slice A4 f2.den.length e4) ∧ Below w.heap.size w W2 := by
    intro W2 hd
    exact ⟨q1'.below hd.below q1'.lt, q2.below hd.below q2.lt, hb.trans (hd.below.mono hb.size)⟩
  unfold sameQ
  generalize decide (f1.num = f2.num) = sn at *
  generalize decide (f1.den = f2.den) = sd at *
  generalize f1.neg = s1 at *
  generalize f2.neg = s2 at *
  have HSN := Lib.hid (hsn W hb)
  have HSD := Lib.hid hsd
  have HK := Lib.hid hk
  clear hsn hsd hk q1 q2 q1' bA h1 h2
  generalize f1.num.length = l1 at *
  generalize f1.den.length = l2 at *
  generalize f2.num.length = l3 at *
  generalize f2.den.length = l4 at *
  have HW := Lib.hid hW
  subst hW
  obtain ⟨W, hW⟩ : ∃ W, W = ((w.alloc (.cells #[.bool s1, .slice A1 l1 e1, .slice A2 l2 e2] 48)).alloc (.cells #[.bool s2, .slice A3 l3 e3, .slice A4 l4 e4] 48)) := ⟨_, rfl⟩
  rw [← hW] at HSN HK hb
  cases s1 <;> cases s2
  all_goals
    go_enter Tryz.func53, Tryz.ntmps53
    go_wp2_with fail
    try simp only [← hW]
    try clear hW
  all_goals first
    | (go_ret; exact ⟨rfl, hb⟩)
    | (refine HSN.out.mono ?_
       rintro e w2 ⟨he, hd⟩
       subst he
       obtain ⟨k1, k2, k3⟩ := HK.out w2 hd
       have x0 := k1.c0
       have x1 := k1.c1
       have x2 := k1.c2
       have y0 := k2.c0
       have y1 := k2.c1
       have y2 := k2.c2
       cases sn
       · go_wp2_with fail
         go_ret
         exact ⟨rfl, k3⟩
       · go_wp2_with fail
         refine (HSD.out w2 k3).mono ?_
         rintro e w3 ⟨he, hd3⟩
         subst he
         go_wp2_with fail
         go_ret
         exact ⟨by cases sd <;> rfl, k3.trans (hd3.below.mono k3.size)⟩)
end Go.Proofs.YtlababdfdjjjaaaGreatDoor
