import Derived.Test.YtlababdfdjjjaaaGreatDoorYR1
namespace Go.Proofs.YtlababdfdjjjaaaGreatDoor
open Go.RowKit

/-! The reference's examination of fractions. -/
def RqRel (w : World) (fs : List Fr) (P : Fr → Prop) (i : Value) (wr : World) : Prop := ∃ k : Nat, k ≤ fs.length ∧ i = .int .i64 (k : Int) ∧ (∀ (j : Nat) (f : Fr), j < k → fs[j]? = some f → ¬ P f) ∧ Below w.heap.size w wr

set_option maxRecDepth 100000 in
set_option maxHeartbeats 4000000 in
theorem rbadq_any (g cap : Nat) (fs : List Fr) (w : World) (hg : g < w.heap.size) (hn : fs.length ≤ 1000) (hf : ∀ (k : Nat) (f : Fr), fs[k]? = some f → FrAt w g k f) :
    Calls Tryz.prog 107 #[.slice (some ⟨g, 0, none⟩) fs.length cap] w fun e w' => e = .returned (.int .i64 (examQW fs)) ∧ Below w.heap.size w w' := by
  have HF := Lib.hid hf
  clear hf
  go_enter Tryz.func107, Tryz.ntmps107
  go_wp2_with fail
  go_loopw [3] (fun i wr => RqRel w fs (fun f => f.ex = 3) i wr) (fun i _ => fs.length - (intOf i).toNat)
  case atStart => exact ⟨0, Nat.zero_le _, rfl, (fun j l hj => by omega), Below.refl _ _⟩
  case round =>
    obtain ⟨k, hk, rfl, hno, hb⟩ := hrel
    by_cases hlt : k < fs.length
    · obtain ⟨f, h1⟩ : ∃ f, fs[k]? = some f := ⟨fs[k], List.getElem?_eq_getElem hlt⟩
      obtain ⟨A, n, ca, B, m, cb, c0, c1, c2, a1, a2⟩ := (HF.out k f h1).up hg hb
      have hklt : (k : Int) < (fs.length : Int) := by omega
      have hk0 : (0 : Int) ≤ (k : Int) := Int.natCast_nonneg _
      have hex3 : (f.ex = 3) ↔ (512 < f.num.length ∨ 512 < f.den.length) := by
        unfold Fr.ex examW
        by_cases a1 : 512 < f.num.length <;> by_cases a2 : 512 < f.den.length <;> simp [a1, a2]
        all_goals split <;> simp
      have e1 : n = f.num.length := (by obtain ⟨_, _, he, -⟩ := a1.1.form; injection he)
      have e2 : m = f.den.length := (by obtain ⟨_, _, he, -⟩ := a2.1.form; injection he)
      subst e1
      subst e2
      have HB := Lib.hid hb
      generalize f.num.length = x at *
      generalize f.den.length = y at *
      by_cases h3 : 512 < x ∨ 512 < y
      · have hres := examQW_long h1 (hex3.2 h3)
        have HRES := Lib.hid hres
        clear hex3 hres hno h1 a1 a2 hb
        by_cases hx : 512 < x
        · have hxi : (512 : Int) < (x : Int) := by omega
          clear h3
          go_wp2_with fail
          go_ret
          exact ⟨by rw [HRES.out]; rfl, HB.out⟩
        · have hxi : ¬ (512 : Int) < (x : Int) := by omega
          have hyi : (512 : Int) < (y : Int) := by omega
          clear h3
          go_wp2_with fail
          go_ret
          exact ⟨by rw [HRES.out]; rfl, HB.out⟩
      · have hno' : ∀ (j : Nat) (f' : Fr), j < k + 1 → fs[j]? = some f' → ¬ f'.ex = 3 := by
          intro j f' hj hf'
          rcases Nat.lt_or_ge j k with h | h
          · exact hno j f' h hf'
          · have : j = k := by omega
            subst this
            rw [h1] at hf'
            cases hf'
            exact fun h => h3 (hex3.1 h)
        have HNO := Lib.hid hno'
        have hxi : ¬ (512 : Int) < (x : Int) := by omega
        have hyi : ¬ (512 : Int) < (y : Int) := by omega
        clear hex3 hno hno' h1 a1 a2 h3 hb
        go_wp2_with fail
        first
          | exact ⟨⟨k + 1, by omega, by first | rfl | go_num, HNO.out, HB.out⟩, by simp [intOf]; omega⟩
          | (go_roundw
             case rel => exact ⟨k + 1, by omega, by first | rfl | go_num, HNO.out, HB.out⟩
             case measure => simp [intOf]; omega)
    · obtain rfl : k = fs.length := by omega
      have hsh := examQW_short hno
      have HSH := Lib.hid hsh
      clear hsh hno
      go_wp2_with fail
      go_loopw [4] (fun i wr' => RqRel w fs (fun f => f.proper = false) i wr') (fun i _ => fs.length - (intOf i).toNat)
      case atStart => exact ⟨0, Nat.zero_le _, rfl, (fun j l hj => by omega), hb⟩
      case round =>
        clear hk hb
        obtain ⟨k, hk, rfl, hno, hb⟩ := hrel
        by_cases hlt2 : k < fs.length
        · obtain ⟨f, h1⟩ : ∃ f, fs[k]? = some f := ⟨fs[k], List.getElem?_eq_getElem hlt2⟩
          obtain ⟨A, n, ca, B, m, cb, c0, c1, c2, a1, a2⟩ := (HF.out k f h1).up hg hb
          have hklt : (k : Int) < (fs.length : Int) := by omega
          have hk0 : (0 : Int) ≤ (k : Int) := Int.natCast_nonneg _
          have hb0 : Below wr.heap.size wr wr := Below.refl _ _
          have hpr := rProper_any f.neg _ _ f.num f.den _ (a1.up hb0) (a2.up hb0)
          obtain ⟨pf, hpf⟩ : ∃ pf, pf = properW f.neg f.num f.den := ⟨_, rfl⟩
          rw [← hpf] at hpr
          have hfp : f.proper = pf := hpf.symm
          have HPR := Lib.hid hpr
          have hb2 := hb.trans (hb0.mono hb.size)
          clear hpr hpf hb0 a1 a2
          cases pf
          · have hany : fs.any (fun f => !f.proper) = true := by
              rw [List.any_eq_true]
              exact ⟨f, List.mem_of_getElem? h1, by rw [hfp]; rfl⟩
            have hex := HSH.out
            rw [hany] at hex
            have HEX := Lib.hid hex
            clear hex hany hfp hno h1
            go_wp2_with fail
            refine HPR.out.mono ?_
            rintro e w2 ⟨he, hb3⟩
            subst he
            go_wp2_with fail
            go_ret
            exact ⟨by rw [HEX.out]; rfl, hb2.trans (hb3.mono hb2.size)⟩
          · have hno' : ∀ (j : Nat) (f' : Fr), j < k + 1 → fs[j]? = some f' → ¬ f'.proper = false := by
              intro j f' hj hf'
              rcases Nat.lt_or_ge j k with h | h
              · exact hno j f' h hf'
              · have : j = k := by omega
                subst this
                rw [h1] at hf'
                cases hf'
                rw [hfp]; decide
            have HNO := Lib.hid hno'
            clear hno hno' hfp h1
            go_wp2_with fail
            refine HPR.out.mono ?_
            rintro e w2 ⟨he, hb3⟩
            subst he
            have hb4 := hb2.trans (hb3.mono hb2.size)
            go_wp2_with fail
            first
              | exact ⟨⟨k + 1, by omega, by first | rfl | go_num, HNO.out, hb4⟩, by simp [intOf]; omega⟩
              | (go_roundw
                 case rel => exact ⟨k + 1, by omega, by first | rfl | go_num, HNO.out, hb4⟩
                 case measure => simp [intOf]; omega)
        · obtain rfl : k = fs.length := by omega
          have hany : fs.any (fun f => !f.proper) = false := by
            rw [List.any_eq_false]
            intro f hf
            obtain ⟨j, hj⟩ := List.mem_iff_getElem?.1 hf
            have := hno j f (List.getElem?_eq_some_iff.1 hj).1 hj
            simpa using this
          have hex := HSH.out
          rw [hany] at hex
          have HEX := Lib.hid hex
          clear hex hany hno
          go_wp2_with fail
          go_ret
          exact ⟨by rw [HEX.out]; rfl, hb⟩
end Go.Proofs.YtlababdfdjjjaaaGreatDoor
namespace Go.Proofs.YtlababdfdjjjaaaGreatDoor
open Go.RowKit

/-! The reference's product and quotient of fractions. -/
theorem rexQ2 (f1 f2 : Fr) (n1 d1 n2 d2 : Value) (w : World) (h1 : FrV w f1 n1 d1) (h2 : FrV w f2 n2 d2) :
    Calls Tryz.prog 107 #[.slice (some ⟨w.heap.size, 0, none⟩) 2 2] (w.alloc (.cells #[.bool f1.neg, n1, d1, .bool f2.neg, n2, d2] 48)) fun e w' => e = .returned (.int .i64 (examQW [f1, f2])) ∧ Below (w.heap.size + 1) (w.alloc (.cells #[.bool f1.neg, n1, d1, .bool f2.neg, n2, d2] 48)) w' := by
  obtain ⟨W, hW⟩ : ∃ W, W = w.alloc (.cells #[.bool f1.neg, n1, d1, .bool f2.neg, n2, d2] 48) := ⟨_, rfl⟩
  have hb : Below w.heap.size w W := by rw [hW]; exact (Below.refl _ _).alloc (Nat.le_refl _) _
  have hrow : W.heap[w.heap.size]? = some (.cells #[.bool f1.neg, n1, d1, .bool f2.neg, n2, d2] 48 (0, 0)) := by rw [hW]; exact World.alloc_heap_new w _
  have hsz : W.heap.size = w.heap.size + 1 := by rw [hW]; simp
  rw [← hW]
  have g1 := h1.up hb
  have g2 := h2.up hb
  obtain ⟨A1, a1, rfl, -⟩ := g1.1.1.form
  obtain ⟨A2, a2, rfl, -⟩ := g1.2.1.form
  obtain ⟨A3, a3, rfl, -⟩ := g2.1.1.form
  obtain ⟨A4, a4, rfl, -⟩ := g2.2.1.form
  have h := rbadq_any w.heap.size 2 [f1, f2] W (by omega) (by simp) (fun k f hk => by
    match k, hk with
    | 0, hk =>
      simp at hk; subst hk
      exact ⟨_, _, _, _, _, _, by rw [Go.Joins.cell_of_block hrow]; rfl, by rw [Go.Joins.cell_of_block hrow]; rfl, by rw [Go.Joins.cell_of_block hrow]; rfl, g1.1, g1.2⟩
    | 1, hk =>
      simp at hk; subst hk
      exact ⟨_, _, _, _, _, _, by rw [Go.Joins.cell_of_block hrow]; rfl, by rw [Go.Joins.cell_of_block hrow]; rfl, by rw [Go.Joins.cell_of_block hrow]; rfl, g2.1, g2.2⟩)
  rw [hsz] at h
  exact h
/-- Both arguments and the result in memory. -/
def W3 (w : World) (a b : Bool) (n1 d1 n2 d2 : Value) : World := ((w.alloc (.cells #[.bool a, n1, d1] 48)).alloc (.cells #[.bool b, n2, d2] 48)).alloc (.cells #[.bool false, .slice none 0 0, .slice none 0 0] 48)
theorem fsum_start (w : World) (a b : Bool) (n1 d1 n2 d2 : Value) : FSum w a n1 d1 b n2 d2 (W3 w a b n1 d1 n2 d2) := by
  have b1 : Below w.heap.size w (w.alloc (.cells #[.bool a, n1, d1] 48)) := (Below.refl _ w).alloc (Nat.le_refl _) _
  have q1 := QB.new w a n1 d1
  have q2 := QB.new (w.alloc (.cells #[.bool a, n1, d1] 48)) b n2 d2
  have q3 := QB.new ((w.alloc (.cells #[.bool a, n1, d1] 48)).alloc (.cells #[.bool b, n2, d2] 48)) false (.slice none 0 0) (.slice none 0 0)
  have bA := fun (W : World) (o : Obj) => (Below.refl W.heap.size W).alloc (Nat.le_refl _) o
  rw [World.size_alloc] at q2
  rw [World.size_alloc, World.size_alloc] at q3
  exact ⟨(q1.below (bA _ _) q1.lt).below (bA _ _) (q1.below (bA _ _) q1.lt).lt, q2.below (bA _ _) q2.lt, q3, ((b1.alloc (by simp) _).alloc (by simp; omega) _)⟩
theorem W3_size (w : World) (a b : Bool) (n1 d1 n2 d2 : Value) : (W3 w a b n1 d1 n2 d2).heap.size = w.heap.size + 1 + 1 + 1 := by simp [W3]
theorem rexW3 (f1 f2 : Fr) (n1 d1 n2 d2 : Value) (w : World) (h1 : FrV w f1 n1 d1) (h2 : FrV w f2 n2 d2) :
    Calls Tryz.prog 107 #[.slice (some ⟨w.heap.size + 1 + 1 + 1, 0, none⟩) 2 2] ((W3 w f1.neg f2.neg n1 d1 n2 d2).alloc (.cells #[.bool f1.neg, n1, d1, .bool f2.neg, n2, d2] 48)) fun e w' => e = .returned (.int .i64 (examQW [f1, f2])) ∧ FSum w f1.neg n1 d1 f2.neg n2 d2 w' := by
  have hF := fsum_start w f1.neg f2.neg n1 d1 n2 d2
  have hex := rexQ2 f1 f2 n1 d1 n2 d2 (W3 w f1.neg f2.neg n1 d1 n2 d2) (h1.up hF.bl) (h2.up hF.bl)
  have hsz := W3_size w f1.neg f2.neg n1 d1 n2 d2
  generalize W3 w f1.neg f2.neg n1 d1 n2 d2 = W at *
  have hbA : Below W.heap.size W (W.alloc (.cells #[.bool f1.neg, n1, d1, .bool f2.neg, n2, d2] 48)) := (Below.refl _ _).alloc (Nat.le_refl _) _
  have hSA := hF.below hbA
  have hszA : (W.alloc (.cells #[.bool f1.neg, n1, d1, .bool f2.neg, n2, d2] 48)).heap.size = w.heap.size + 1 + 1 + 1 + 1 := by rw [World.size_alloc, hsz]
  rw [hsz] at hex
  exact hex.mono (fun e w' h => ⟨h.1, hSA.below (by rw [hszA]; exact h.2)⟩)
theorem rtimes_num {va vb : Value} {m n : Nat} {W : World} (ha : Num W W.heap.size va m) (hb : Num W W.heap.size vb n) (h1 : (dg m).length ≤ 1000000) (h2 : (dg n).length ≤ 1000000) :
    Calls Tryz.prog 87 #[va, vb] W (RNum0 W (m * n)) := by
  have h := rtimes_any va vb (dg m) (dg n) W ha hb (by omega) (by omega)
  rw [val_dg, val_dg] at h
  exact h.mono (fun e w' h => by obtain ⟨v, h1, h2, h3, -⟩ := h; exact ⟨v, h1, h2, h3⟩)
theorem rlow_num {u v : Value} {m n : Nat} {W : World} (sg : Bool) (ha : Num W W.heap.size u m) (hb : Num W W.heap.size v n) (hn : n ≠ 0) (h1 : (dg m).length ≤ 100000) (h2 : (dg n).length ≤ 100000) :
    Calls Tryz.prog 108 #[.bool sg, u, v] W (ResF W (lowW sg m n)) := (rlowest_any sg u v m n W ha hb hn (by omega) (by omega)).mono fun e w' h => h.forms
def qmulW (f1 f2 : Fr) : Bool × Nat × Nat × Int := if examQW [f1, f2] = 0 then lowW (f1.neg != f2.neg) (val f1.num * val f2.num) (val f1.den * val f2.den) else (false, 0, 0, examQW [f1, f2])
def qdivW (f1 f2 : Fr) : Bool × Nat × Nat × Int := if examQW [f1, f2] = 0 then (if val f2.num = 0 then (false, 0, 0, 4) else lowW (f1.neg != f2.neg) (val f1.num * val f2.den) (val f1.den * val f2.num)) else (false, 0, 0, examQW [f1, f2])
theorem lenz {l : List Nat} (h : dg (val l) = l) : l.length = 0 ↔ val l = 0 := by
  conv => lhs; rw [← h]
  exact dg_zero_iff

set_option maxRecDepth 100000 in
set_option maxHeartbeats 4000000 in
theorem rQMul_any (f1 f2 : Fr) (n1 d1 n2 d2 : Value) (w : World) (h1 : FrV w f1 n1 d1) (h2 : FrV w f2 n2 d2) :
    Calls Tryz.prog 55 #[.agg #[.bool f1.neg, n1, d1], .agg #[.bool f2.neg, n2, d2]] w (ResW w (qmulW f1 f2)) := by
  have hF := fsum_start w f1.neg f2.neg n1 d1 n2 d2
  have hex := rexW3 f1 f2 n1 d1 n2 d2 w h1 h2
  unfold W3 at hF hex
  have hok : examQW [f1, f2] = 0 → ∀ W', Below w.heap.size w W' → _ := fun h0 W' hW' => (⟨(h1.up hW').ok (examQW_ok h0 f1 (by simp)), (h2.up hW').ok (examQW_ok h0 f2 (by simp))⟩ : _ ∧ _)
  have ht1 : examQW [f1, f2] = 0 → ∀ W', Below w.heap.size w W' → Calls Tryz.prog 87 #[n1, n2] W' (RNum0 W' (val f1.num * val f2.num)) := by
    intro h0 W' hW'
    obtain ⟨⟨a1, a2, a3, a4, a5⟩, ⟨b1, b2, b3, b4, b5⟩⟩ := hok h0 W' hW'
    exact rtimes_num a1 b1 (by omega) (by omega)
  have ht2 : examQW [f1, f2] = 0 → ∀ W', Below w.heap.size w W' → Calls Tryz.prog 87 #[d1, d2] W' (RNum0 W' (val f1.den * val f2.den)) := by
    intro h0 W' hW'
    obtain ⟨⟨a1, a2, a3, a4, a5⟩, ⟨b1, b2, b3, b4, b5⟩⟩ := hok h0 W' hW'
    exact rtimes_num a2 b2 (by omega) (by omega)
  have hlo : examQW [f1, f2] = 0 → ∀ W' u v, Num W' W'.heap.size u (val f1.num * val f2.num) → Num W' W'.heap.size v (val f1.den * val f2.den) → Calls Tryz.prog 108 #[.bool (f1.neg != f2.neg), u, v] W' (ResF W' (lowW (f1.neg != f2.neg) (val f1.num * val f2.num) (val f1.den * val f2.den))) := by
    intro h0 W' u v hu hv
    obtain ⟨⟨a1, a2, a3, a4, a5⟩, ⟨b1, b2, b3, b4, b5⟩⟩ := hok h0 w (Below.refl _ _)
    have m1 := len_mul (val f1.num) (val f2.num)
    have m2 := len_mul (val f1.den) (val f2.den)
    exact rlow_num _ hu hv (Nat.mul_ne_zero a3 b3) (by omega) (by omega)
  have c0 := hF.qa.c0
  have c1 := hF.qa.c1
  have c2 := hF.qa.c2
  have d0 := hF.qb.c0
  have d1' := hF.qb.c1
  have d2' := hF.qb.c2
  have fn1 := h1.1.1.form
  have fd1 := h1.2.1.form
  have fn2 := h2.1.1.form
  have fd2 := h2.2.1.form
  obtain ⟨A1, e1, rfl, -⟩ := fn1
  obtain ⟨A2, e2, rfl, -⟩ := fd1
  obtain ⟨A3, e3, rfl, -⟩ := fn2
  obtain ⟨A4, e4, rfl, -⟩ := fd2
  unfold qmulW
  obtain ⟨sg, hsg⟩ : ∃ sg, sg = (f1.neg != f2.neg) := ⟨_, rfl⟩
  have qs : (f1.neg == f2.neg) = !sg := by rw [hsg]; simp [bne]
  rw [← hsg] at hlo ⊢
  clear hsg
  generalize lowW sg (val f1.num * val f2.num) (val f1.den * val f2.den) = fr at *
  generalize val f1.num * val f2.num = x at *
  generalize val f1.den * val f2.den = y at *
  generalize examQW [f1, f2] = ec at *
  have HEX := Lib.hid hex
  have HT1 := Lib.hid ht1
  have HT2 := Lib.hid ht2
  have HLO := Lib.hid hlo
  clear hex ht1 ht2 hlo hok hF h1 h2
  generalize f1.neg = s1 at *
  generalize f2.neg = s2 at *
  generalize f1.num.length = l1 at *
  generalize f1.den.length = l2 at *
  generalize f2.num.length = l3 at *
  generalize f2.den.length = l4 at *
  by_cases h0 : ec = 0
  · subst h0
    rw [if_pos rfl]
    have HU1 := Lib.hid (HT1.out rfl)
    have HU2 := Lib.hid (HT2.out rfl)
    have HUL := Lib.hid (HLO.out rfl)
    clear HT1 HT2 HLO
    obtain ⟨rs, rm, rn, re⟩ := fr
    go_enter Tryz.func55, Tryz.ntmps55
    go_wp2_with fail
    refine HEX.out.mono ?_
    rintro e w2 ⟨he, hS2⟩
    subst he
    have x0 := hS2.qa.c0
    have x1 := hS2.qa.c1
    have x2 := hS2.qa.c2
    have y0 := hS2.qb.c0
    have y1 := hS2.qb.c1
    have y2 := hS2.qb.c2
    have r0 := hS2.qr.c0
    have r1 := hS2.qr.c1
    have r2 := hS2.qr.c2
    have r3 := hS2.qr.fr 0
    have r4 := hS2.qr.fr 1
    have r5 := hS2.qr.fr 2
    go_wp2_with fail
    go_region_held3 (fun w' => w'.cell? ⟨w.heap.size, 0, none⟩ = some (.bool s1) ∧ w'.cell? ⟨w.heap.size, 1, none⟩ = some (.slice A1 l1 e1) ∧ w'.cell? ⟨w.heap.size, 2, none⟩ = some (.slice A2 l2 e2) ∧ w'.cell? ⟨w.heap.size + 1, 0, none⟩ = some (.bool s2) ∧ w'.cell? ⟨w.heap.size + 1, 1, none⟩ = some (.slice A3 l3 e3) ∧ w'.cell? ⟨w.heap.size + 1, 2, none⟩ = some (.slice A4 l4 e4))
      (((try dsimp only); refine ⟨?_, ?_, ?_, ?_, ?_, ?_⟩ <;> first | with_reducible assumption | with_reducible exact kpx0 _ _ _ | with_reducible exact kpx1 _ _ _ | with_reducible exact kpx2 _ _ _ | with_reducible exact kpy0 _ _ _ | with_reducible exact kpy1 _ _ _ | with_reducible exact kpy2 _ _ _ | go_keep))
      (first
        | (go_at_call 87; refine Calls.mono (HU1.out _ (FSum.bl hS2.drew)) ?_; rintro e w3 ⟨vx, he, hvx, hba⟩; subst he; have hSa := FSum.below hS2.drew hba; have x0a := hSa.qa.c0; have x1a := hSa.qa.c1; have x2a := hSa.qa.c2; have y0a := hSa.qb.c0; have y1a := hSa.qb.c1; have y2a := hSa.qb.c2; have r0a := hSa.qr.c0; have r1a := hSa.qr.c1; have r2a := hSa.qr.c2; have r3a := hSa.qr.fr 0; have r4a := hSa.qr.fr 1; have r5a := hSa.qr.fr 2; clear HU1)
        | (go_at_call 87; refine Calls.mono (HU2.out _ (FSum.bl hSa)) ?_; rintro e w4 ⟨vy, he, hvy, hbb⟩; subst he; have hSb := FSum.below hSa hbb; have x0b := hSb.qa.c0; have x1b := hSb.qa.c1; have x2b := hSb.qa.c2; have y0b := hSb.qb.c0; have y1b := hSb.qb.c1; have y2b := hSb.qb.c2; have r0b := hSb.qr.c0; have r1b := hSb.qr.c1; have r2b := hSb.qr.c2; have r3b := hSb.qr.fr 0; have r4b := hSb.qr.fr 1; have r5b := hSb.qr.fr 2; clear HU2; have hvx4 := Lim.up hvx hbb)
        | (go_at_call 108; refine Calls.mono (HUL.out _ _ _ hvx4 hvy) ?_; rintro e w5 ⟨Bn, ln, cn, Bd, ld, cd, he, hvn, hvd, hbc⟩; subst he; have hSc := FSum.below hSb hbc; have x0c := hSc.qa.c0; have x1c := hSc.qa.c1; have x2c := hSc.qa.c2; have y0c := hSc.qb.c0; have y1c := hSc.qb.c1; have y2c := hSc.qb.c2; have r0c := hSc.qr.c0; have r1c := hSc.qr.c1; have r2c := hSc.qr.c2; have r3c := hSc.qr.fr 0; have r4c := hSc.qr.fr 1; have r5c := hSc.qr.fr 2; clear HUL; have kpx0 := cell_other3 (k := w.heap.size + 1 + 1) x0c (by omega); have kpx1 := cell_other3 (k := w.heap.size + 1 + 1) x1c (by omega); have kpx2 := cell_other3 (k := w.heap.size + 1 + 1) x2c (by omega); have kpy0 := cell_other3 (k := w.heap.size + 1 + 1) y0c (by omega); have kpy1 := cell_other3 (k := w.heap.size + 1 + 1) y1c (by omega); have kpy2 := cell_other3 (k := w.heap.size + 1 + 1) y2c (by omega)))
    go_wp2_with fail
    change bodyPost _ _ _ Exit.ret _ (wroteQ w5 (w.heap.size + 1 + 1) rs (.slice Bn ln cn) (.slice Bd ld cd))
    have g1 := hSc.qr.write rs (.slice Bn ln cn) (.slice Bd ld cd)
    have g2 : Num (wroteQ w5 (w.heap.size + 1 + 1) rs (.slice Bn ln cn) (.slice Bd ld cd)) w5.heap.size (.slice Bn ln cn) rm := Lim.wroteQ hvn hSc.qr rs _ _
    have g3 : Num (wroteQ w5 (w.heap.size + 1 + 1) rs (.slice Bn ln cn) (.slice Bd ld cd)) w5.heap.size (.slice Bd ld cd) rn := Lim.wroteQ hvd hSc.qr rs _ _
    have g4 := wroteQ_below hSc.bl (show w.heap.size ≤ w.heap.size + 1 + 1 by omega) rs (.slice Bn ln cn) (.slice Bd ld cd)
    have g5 : w5.heap.size ≤ (wroteQ w5 (w.heap.size + 1 + 1) rs (.slice Bn ln cn) (.slice Bd ld cd)).heap.size := by simp [wroteQ, World.setCell]
    generalize wroteQ w5 (w.heap.size + 1 + 1) rs (.slice Bn ln cn) (.slice Bd ld cd) = W9 at g1 g2 g3 g4 g5 ⊢
    have k0 := g1.c0
    have k1 := g1.c1
    have k2 := g1.c2
    refine bodyPost_ret (v := .tuple #[.agg #[.bool rs, .slice Bn ln cn, .slice Bd ld cd], .int .i64 re]) ?_ rfl ⟨_, _, rfl, Lim.more g2 g5, Lim.more g3 g5, g4⟩
    simp [results, Tryz.results55, k0, k1, k2, go_sem]
  · rw [if_neg h0]
    have q1 : (ec == 0) = false := by simp [h0]
    have q2 : (ec != 0) = true := by simp [h0]
    clear h0 HT1 HT2 HLO
    go_enter Tryz.func55, Tryz.ntmps55
    go_wp2_with fail
    refine HEX.out.mono ?_
    rintro e w2 ⟨he, hS2⟩
    subst he
    have x0 := hS2.qa.c0
    have x1 := hS2.qa.c1
    have x2 := hS2.qa.c2
    have y0 := hS2.qb.c0
    have y1 := hS2.qb.c1
    have y2 := hS2.qb.c2
    have r0 := hS2.qr.c0
    have r1 := hS2.qr.c1
    have r2 := hS2.qr.c2
    have r3 := hS2.qr.fr 0
    have r4 := hS2.qr.fr 1
    have r5 := hS2.qr.fr 2
    go_wp2_with fail
    change bodyPost _ _ _ Exit.ret _ (wroteQ w2 (w.heap.size + 1 + 1) false (.slice none 0 0) (.slice none 0 0))
    have g1 := hS2.qr.write false (.slice none 0 0) (.slice none 0 0)
    have g4 := wroteQ_below hS2.bl (show w.heap.size ≤ w.heap.size + 1 + 1 by omega) false (.slice none 0 0) (.slice none 0 0)
    generalize wroteQ w2 (w.heap.size + 1 + 1) false (.slice none 0 0) (.slice none 0 0) = W9 at g1 g4 ⊢
    have k0 := g1.c0
    have k1 := g1.c1
    have k2 := g1.c2
    refine bodyPost_ret (v := .tuple #[.agg #[.bool false, .slice none 0 0, .slice none 0 0], .int .i64 ec]) ?_ rfl ⟨_, _, rfl, Num.zero _ _, Num.zero _ _, g4⟩
    simp [results, Tryz.results55, k0, k1, k2, go_sem]

set_option maxRecDepth 100000 in
set_option maxHeartbeats 4000000 in
theorem rQDiv_any (f1 f2 : Fr) (n1 d1 n2 d2 : Value) (w : World) (h1 : FrV w f1 n1 d1) (h2 : FrV w f2 n2 d2) :
    Calls Tryz.prog 57 #[.agg #[.bool f1.neg, n1, d1], .agg #[.bool f2.neg, n2, d2]] w (ResW w (qdivW f1 f2)) := by
  have hF := fsum_start w f1.neg f2.neg n1 d1 n2 d2
  have hex := rexW3 f1 f2 n1 d1 n2 d2 w h1 h2
  unfold W3 at hF hex
  have hok : examQW [f1, f2] = 0 → ∀ W', Below w.heap.size w W' → _ := fun h0 W' hW' => (⟨(h1.up hW').ok (examQW_ok h0 f1 (by simp)), (h2.up hW').ok (examQW_ok h0 f2 (by simp))⟩ : _ ∧ _)
  have ht1 : examQW [f1, f2] = 0 → val f2.num ≠ 0 → ∀ W', Below w.heap.size w W' → Calls Tryz.prog 87 #[n1, d2] W' (RNum0 W' (val f1.num * val f2.den)) := by
    intro h0 hz W' hW'
    obtain ⟨⟨a1, a2, a3, a4, a5⟩, ⟨b1, b2, b3, b4, b5⟩⟩ := hok h0 W' hW'
    exact rtimes_num a1 b2 (by omega) (by omega)
  have ht2 : examQW [f1, f2] = 0 → val f2.num ≠ 0 → ∀ W', Below w.heap.size w W' → Calls Tryz.prog 87 #[d1, n2] W' (RNum0 W' (val f1.den * val f2.num)) := by
    intro h0 hz W' hW'
    obtain ⟨⟨a1, a2, a3, a4, a5⟩, ⟨b1, b2, b3, b4, b5⟩⟩ := hok h0 W' hW'
    exact rtimes_num a2 b1 (by omega) (by omega)
  have hlo : examQW [f1, f2] = 0 → val f2.num ≠ 0 → ∀ W' u v, Num W' W'.heap.size u (val f1.num * val f2.den) → Num W' W'.heap.size v (val f1.den * val f2.num) → Calls Tryz.prog 108 #[.bool (f1.neg != f2.neg), u, v] W' (ResF W' (lowW (f1.neg != f2.neg) (val f1.num * val f2.den) (val f1.den * val f2.num))) := by
    intro h0 hz W' u v hu hv
    obtain ⟨⟨a1, a2, a3, a4, a5⟩, ⟨b1, b2, b3, b4, b5⟩⟩ := hok h0 w (Below.refl _ _)
    have m1 := len_mul (val f1.num) (val f2.den)
    have m2 := len_mul (val f1.den) (val f2.num)
    exact rlow_num _ hu hv (Nat.mul_ne_zero a3 hz) (by omega) (by omega)
  have hlz : examQW [f1, f2] = 0 → (f2.num.length = 0 ↔ val f2.num = 0) := fun h0 => lenz (h2.1.num (properW_ok (examQW_ok h0 f2 (by simp))).1 (by simp)).2.2
  have c0 := hF.qa.c0
  have c1 := hF.qa.c1
  have c2 := hF.qa.c2
  have d0 := hF.qb.c0
  have d1' := hF.qb.c1
  have d2' := hF.qb.c2
  have fn1 := h1.1.1.form
  have fd1 := h1.2.1.form
  have fn2 := h2.1.1.form
  have fd2 := h2.2.1.form
  obtain ⟨A1, e1, rfl, -⟩ := fn1
  obtain ⟨A2, e2, rfl, -⟩ := fd1
  obtain ⟨A3, e3, rfl, -⟩ := fn2
  obtain ⟨A4, e4, rfl, -⟩ := fd2
  unfold qdivW
  obtain ⟨sg, hsg⟩ : ∃ sg, sg = (f1.neg != f2.neg) := ⟨_, rfl⟩
  have qs : (f1.neg == f2.neg) = !sg := by rw [hsg]; simp [bne]
  rw [← hsg] at hlo ⊢
  clear hsg
  generalize lowW sg (val f1.num * val f2.den) (val f1.den * val f2.num) = fr at *
  generalize val f1.num * val f2.den = x at *
  generalize val f1.den * val f2.num = y at *
  generalize examQW [f1, f2] = ec at *
  have HEX := Lib.hid hex
  have HT1 := Lib.hid ht1
  have HT2 := Lib.hid ht2
  have HLO := Lib.hid hlo
  clear hex ht1 ht2 hlo hok hF h1 h2
  have HLZ := Lib.hid hlz
  clear hlz
  generalize val f2.num = vn at *
  generalize f1.neg = s1 at *
  generalize f2.neg = s2 at *
  generalize f1.num.length = l1 at *
  generalize f1.den.length = l2 at *
  generalize f2.num.length = l3 at *
  generalize f2.den.length = l4 at *
  by_cases h0 : ec = 0
  · subst h0
    rw [if_pos rfl]
    have HLZ := Lib.hid (HLZ.out rfl)
    by_cases hz : vn = 0
    · rw [if_pos hz]
      obtain rfl : l3 = 0 := HLZ.out.2 hz
      clear HT1 HT2 HLO HLZ hz
      go_enter Tryz.func57, Tryz.ntmps57
      go_wp2_with fail
      refine HEX.out.mono ?_
      rintro e w2 ⟨he, hS2⟩
      subst he
      have x0 := hS2.qa.c0
      have x1 := hS2.qa.c1
      have x2 := hS2.qa.c2
      have y0 := hS2.qb.c0
      have y1 := hS2.qb.c1
      have y2 := hS2.qb.c2
      have r0 := hS2.qr.c0
      have r1 := hS2.qr.c1
      have r2 := hS2.qr.c2
      have r3 := hS2.qr.fr 0
      have r4 := hS2.qr.fr 1
      have r5 := hS2.qr.fr 2
      go_wp2_with fail
      change bodyPost _ _ _ Exit.ret _ (wroteQ w2 (w.heap.size + 1 + 1) false (.slice none 0 0) (.slice none 0 0))
      have g1 := hS2.qr.write false (.slice none 0 0) (.slice none 0 0)
      have g4 := wroteQ_below hS2.bl (show w.heap.size ≤ w.heap.size + 1 + 1 by omega) false (.slice none 0 0) (.slice none 0 0)
      generalize wroteQ w2 (w.heap.size + 1 + 1) false (.slice none 0 0) (.slice none 0 0) = W9 at g1 g4 ⊢
      have k0 := g1.c0
      have k1 := g1.c1
      have k2 := g1.c2
      refine bodyPost_ret (v := .tuple #[.agg #[.bool false, .slice none 0 0, .slice none 0 0], .int .i64 4]) ?_ rfl ⟨_, _, rfl, Num.zero _ _, Num.zero _ _, g4⟩
      simp [results, Tryz.results57, k0, k1, k2, go_sem]
    · rw [if_neg hz]
      have hl3 : l3 ≠ 0 := fun h => hz (HLZ.out.1 h)
      have HU1 := Lib.hid (HT1.out rfl hz)
      have HU2 := Lib.hid (HT2.out rfl hz)
      have HUL := Lib.hid (HLO.out rfl hz)
      have q3 : ((l3 : Int) == 0) = false := by simp; omega
      clear HLZ hz hl3 HT1 HT2 HLO
      obtain ⟨rs, rm, rn, re⟩ := fr
      go_enter Tryz.func57, Tryz.ntmps57
      go_wp2_with fail
      refine HEX.out.mono ?_
      rintro e w2 ⟨he, hS2⟩
      subst he
      have x0 := hS2.qa.c0
      have x1 := hS2.qa.c1
      have x2 := hS2.qa.c2
      have y0 := hS2.qb.c0
      have y1 := hS2.qb.c1
      have y2 := hS2.qb.c2
      have r0 := hS2.qr.c0
      have r1 := hS2.qr.c1
      have r2 := hS2.qr.c2
      have r3 := hS2.qr.fr 0
      have r4 := hS2.qr.fr 1
      have r5 := hS2.qr.fr 2
      go_wp2_with fail
      go_region_held3 (fun w' => w'.cell? ⟨w.heap.size, 0, none⟩ = some (.bool s1) ∧ w'.cell? ⟨w.heap.size, 1, none⟩ = some (.slice A1 l1 e1) ∧ w'.cell? ⟨w.heap.size, 2, none⟩ = some (.slice A2 l2 e2) ∧ w'.cell? ⟨w.heap.size + 1, 0, none⟩ = some (.bool s2) ∧ w'.cell? ⟨w.heap.size + 1, 1, none⟩ = some (.slice A3 l3 e3) ∧ w'.cell? ⟨w.heap.size + 1, 2, none⟩ = some (.slice A4 l4 e4))
        (((try dsimp only); refine ⟨?_, ?_, ?_, ?_, ?_, ?_⟩ <;> first | with_reducible assumption | with_reducible exact kpx0 _ _ _ | with_reducible exact kpx1 _ _ _ | with_reducible exact kpx2 _ _ _ | with_reducible exact kpy0 _ _ _ | with_reducible exact kpy1 _ _ _ | with_reducible exact kpy2 _ _ _ | go_keep))
        (first
          | (go_at_call 87; refine Calls.mono (HU1.out _ (FSum.bl hS2.drew)) ?_; rintro e w3 ⟨vx, he, hvx, hba⟩; subst he; have hSa := FSum.below hS2.drew hba; have x0a := hSa.qa.c0; have x1a := hSa.qa.c1; have x2a := hSa.qa.c2; have y0a := hSa.qb.c0; have y1a := hSa.qb.c1; have y2a := hSa.qb.c2; have r0a := hSa.qr.c0; have r1a := hSa.qr.c1; have r2a := hSa.qr.c2; have r3a := hSa.qr.fr 0; have r4a := hSa.qr.fr 1; have r5a := hSa.qr.fr 2; clear HU1)
          | (go_at_call 87; refine Calls.mono (HU2.out _ (FSum.bl hSa)) ?_; rintro e w4 ⟨vy, he, hvy, hbb⟩; subst he; have hSb := FSum.below hSa hbb; have x0b := hSb.qa.c0; have x1b := hSb.qa.c1; have x2b := hSb.qa.c2; have y0b := hSb.qb.c0; have y1b := hSb.qb.c1; have y2b := hSb.qb.c2; have r0b := hSb.qr.c0; have r1b := hSb.qr.c1; have r2b := hSb.qr.c2; have r3b := hSb.qr.fr 0; have r4b := hSb.qr.fr 1; have r5b := hSb.qr.fr 2; clear HU2; have hvx4 := Lim.up hvx hbb)
          | (go_at_call 108; refine Calls.mono (HUL.out _ _ _ hvx4 hvy) ?_; rintro e w5 ⟨Bn, ln, cn, Bd, ld, cd, he, hvn, hvd, hbc⟩; subst he; have hSc := FSum.below hSb hbc; have x0c := hSc.qa.c0; have x1c := hSc.qa.c1; have x2c := hSc.qa.c2; have y0c := hSc.qb.c0; have y1c := hSc.qb.c1; have y2c := hSc.qb.c2; have r0c := hSc.qr.c0; have r1c := hSc.qr.c1; have r2c := hSc.qr.c2; have r3c := hSc.qr.fr 0; have r4c := hSc.qr.fr 1; have r5c := hSc.qr.fr 2; clear HUL; have kpx0 := cell_other3 (k := w.heap.size + 1 + 1) x0c (by omega); have kpx1 := cell_other3 (k := w.heap.size + 1 + 1) x1c (by omega); have kpx2 := cell_other3 (k := w.heap.size + 1 + 1) x2c (by omega); have kpy0 := cell_other3 (k := w.heap.size + 1 + 1) y0c (by omega); have kpy1 := cell_other3 (k := w.heap.size + 1 + 1) y1c (by omega); have kpy2 := cell_other3 (k := w.heap.size + 1 + 1) y2c (by omega)))
      go_wp2_with fail
      change bodyPost _ _ _ Exit.ret _ (wroteQ w5 (w.heap.size + 1 + 1) rs (.slice Bn ln cn) (.slice Bd ld cd))
      have g1 := hSc.qr.write rs (.slice Bn ln cn) (.slice Bd ld cd)
      have g2 : Num (wroteQ w5 (w.heap.size + 1 + 1) rs (.slice Bn ln cn) (.slice Bd ld cd)) w5.heap.size (.slice Bn ln cn) rm := Lim.wroteQ hvn hSc.qr rs _ _
      have g3 : Num (wroteQ w5 (w.heap.size + 1 + 1) rs (.slice Bn ln cn) (.slice Bd ld cd)) w5.heap.size (.slice Bd ld cd) rn := Lim.wroteQ hvd hSc.qr rs _ _
      have g4 := wroteQ_below hSc.bl (show w.heap.size ≤ w.heap.size + 1 + 1 by omega) rs (.slice Bn ln cn) (.slice Bd ld cd)
      have g5 : w5.heap.size ≤ (wroteQ w5 (w.heap.size + 1 + 1) rs (.slice Bn ln cn) (.slice Bd ld cd)).heap.size := by simp [wroteQ, World.setCell]
      generalize wroteQ w5 (w.heap.size + 1 + 1) rs (.slice Bn ln cn) (.slice Bd ld cd) = W9 at g1 g2 g3 g4 g5 ⊢
      have k0 := g1.c0
      have k1 := g1.c1
      have k2 := g1.c2
      refine bodyPost_ret (v := .tuple #[.agg #[.bool rs, .slice Bn ln cn, .slice Bd ld cd], .int .i64 re]) ?_ rfl ⟨_, _, rfl, Lim.more g2 g5, Lim.more g3 g5, g4⟩
      simp [results, Tryz.results57, k0, k1, k2, go_sem]
  · rw [if_neg h0]
    have q1 : (ec == 0) = false := by simp [h0]
    have q2 : (ec != 0) = true := by simp [h0]
    clear h0 HT1 HT2 HLO HLZ
    go_enter Tryz.func57, Tryz.ntmps57
    go_wp2_with fail
    refine HEX.out.mono ?_
    rintro e w2 ⟨he, hS2⟩
    subst he
    have x0 := hS2.qa.c0
    have x1 := hS2.qa.c1
    have x2 := hS2.qa.c2
    have y0 := hS2.qb.c0
    have y1 := hS2.qb.c1
    have y2 := hS2.qb.c2
    have r0 := hS2.qr.c0
    have r1 := hS2.qr.c1
    have r2 := hS2.qr.c2
    have r3 := hS2.qr.fr 0
    have r4 := hS2.qr.fr 1
    have r5 := hS2.qr.fr 2
    go_wp2_with fail
    change bodyPost _ _ _ Exit.ret _ (wroteQ w2 (w.heap.size + 1 + 1) false (.slice none 0 0) (.slice none 0 0))
    have g1 := hS2.qr.write false (.slice none 0 0) (.slice none 0 0)
    have g4 := wroteQ_below hS2.bl (show w.heap.size ≤ w.heap.size + 1 + 1 by omega) false (.slice none 0 0) (.slice none 0 0)
    generalize wroteQ w2 (w.heap.size + 1 + 1) false (.slice none 0 0) (.slice none 0 0) = W9 at g1 g4 ⊢
    have k0 := g1.c0
    have k1 := g1.c1
    have k2 := g1.c2
    refine bodyPost_ret (v := .tuple #[.agg #[.bool false, .slice none 0 0, .slice none 0 0], .int .i64 ec]) ?_ rfl ⟨_, _, rfl, Num.zero _ _, Num.zero _ _, g4⟩
    simp [results, Tryz.results57, k0, k1, k2, go_sem]
end Go.Proofs.YtlababdfdjjjaaaGreatDoor
