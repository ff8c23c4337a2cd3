import Derived.Test.YtmmgbofhbnflkaaYR1
namespace Go.Proofs.Ytmmgbofhbnflkaa
open Go.RowKit

/-! The reference's examination of fractions. -/
def RqRel (w : World) (fs : List Fr) (P : Fr → Prop) (i : Value) (wr : World) : Prop := ∃ k : Nat, k ≤ fs.length ∧ i = .int .i64 (k : Int) ∧ (∀ (j : Nat) (f : Fr), j < k → fs[j]? = some f → ¬ P f) ∧ Below w.heap.size w wr

set_option maxRecDepth 100000 in
set_option maxHeartbeats 4000000 in
theorem rbadq_any (g cap : Nat) (fs : List Fr) (w : World) (hg : g < w.heap.size) (hn : fs.length ≤ 1000) (hf : ∀ (k : Nat) (f : Fr), fs[k]? = some f → FrAt w g k f) :
    Calls Try.prog 74 #[.slice (some ⟨g, 0, none⟩) fs.length cap] w fun e w' => e = .returned (.int .i64 (examQW fs)) ∧ Below w.heap.size w w' := by
  have HF := Lib.hid hf
  clear hf
  go_enter Try.func74, Try.ntmps74
  go_wp2_with fail
  go_loopw [3] (fun i wr => RqRel w fs (fun f => f.ex = 3) i wr) (fun i _ => fs.length - (intOf i).toNat)
  case atStart => exact ⟨0, Nat.zero_le _, rfl, (fun j l hj => by omega), Below.refl _ _⟩
  case round =>
    obtain ⟨k, hk, rfl, hno, hb⟩ := hrel
    by_cases hlt : k < fs.length
    · obtain ⟨f, h1⟩ : ∃ f, fs[k]? = some f := ⟨fs[k], List.getElem?_eq_getElem hlt⟩
      obtain ⟨A, n, ca, B, m, cb, c0, c1, c2, a1, a2⟩ := (HF.out k f h1).up hg hb
      have hklt : (k : Int) < (fs.length : Int) := by omega
      have hk0 : (0 : Int) ≤ (k : Int) := Int.natCast_nonneg _
      have hex3 : (f.ex = 3) ↔ (512 < f.num.length ∨ 512 < f.den.length) := by
        unfold Fr.ex examW
        by_cases a1 : 512 < f.num.length <;> by_cases a2 : 512 < f.den.length <;> simp [a1, a2]
        all_goals split <;> simp
      have e1 : n = f.num.length := (by obtain ⟨_, _, he, -⟩ := a1.1.form; injection he)
      have e2 : m = f.den.length := (by obtain ⟨_, _, he, -⟩ := a2.1.form; injection he)
      subst e1
      subst e2
      have HB := Lib.hid hb
      generalize f.num.length = x at *
      generalize f.den.length = y at *
      by_cases h3 : 512 < x ∨ 512 < y
      · have hres := examQW_long h1 (hex3.2 h3)
        have HRES := Lib.hid hres
        clear hex3 hres hno h1 a1 a2 hb
        by_cases hx : 512 < x
        · have hxi : (512 : Int) < (x : Int) := by omega
          clear h3
          go_wp2_with fail
          go_ret
          exact ⟨by rw [HRES.out]; rfl, HB.out⟩
        · have hxi : ¬ (512 : Int) < (x : Int) := by omega
          have hyi : (512 : Int) < (y : Int) := by omega
          clear h3
          go_wp2_with fail
          go_ret
          exact ⟨by rw [HRES.out]; rfl, HB.out⟩
      · have hno' : ∀ (j : Nat) (f' : Fr), j < k + 1 → fs[j]? = some f' → ¬ f'.ex = 3 := by
          intro j f' hj hf'
          rcases Nat.lt_or_ge j k with h | h
          · exact hno j f' h hf'
          · have : j = k := by omega
            subst this
            rw [h1] at hf'
            cases hf'
            exact fun h => h3 (hex3.1 h)
        have HNO := Lib.hid hno'
        have hxi : ¬ (512 : Int) < (x : Int) := by omega
        have hyi : ¬ (512 : Int) < (y : Int) := by omega
        clear hex3 hno hno' h1 a1 a2 h3 hb
        go_wp2_with fail
        first
          | exact ⟨⟨k + 1, by omega, by first | rfl | go_num, HNO.out, HB.out⟩, by simp [intOf]; omega⟩
          | (go_roundw
             case rel => exact ⟨k + 1, by omega, by first | rfl | go_num, HNO.out, HB.out⟩
             case measure => simp [intOf]; omega)
    · obtain rfl : k = fs.length := by omega
      have hsh := examQW_short hno
      have HSH := Lib.hid hsh
      clear hsh hno
      go_wp2_with fail
      go_loopw [4] (fun i wr' => RqRel w fs (fun f => f.proper = false) i wr') (fun i _ => fs.length - (intOf i).toNat)
      case atStart => exact ⟨0, Nat.zero_le _, rfl, (fun j l hj => by omega), hb⟩
      case round =>
        clear hk hb
        obtain ⟨k, hk, rfl, hno, hb⟩ := hrel
        by_cases hlt2 : k < fs.length
        · obtain ⟨f, h1⟩ : ∃ f, fs[k]? = some f := ⟨fs[k], List.getElem?_eq_getElem hlt2⟩
          obtain ⟨A, n, ca, B, m, cb, c0, c1, c2, a1, a2⟩ := (HF.out k f h1).up hg hb
          have hklt : (k : Int) < (fs.length : Int) := by omega
          have hk0 : (0 : Int) ≤ (k : Int) := Int.natCast_nonneg _
          have hb0 : Below wr.heap.size wr wr := Below.refl _ _
          have hpr := rProper_any f.neg _ _ f.num f.den _ (a1.up hb0) (a2.up hb0)
          obtain ⟨pf, hpf⟩ : ∃ pf, pf = properW f.neg f.num f.den := ⟨_, rfl⟩
          rw [← hpf] at hpr
          have hfp : f.proper = pf := hpf.symm
          have HPR := Lib.hid hpr
          have hb2 := hb.trans (hb0.mono hb.size)
          clear hpr hpf hb0 a1 a2
          cases pf
          · have hany : fs.any (fun f => !f.proper) = true := by
              rw [List.any_eq_true]
              exact ⟨f, List.mem_of_getElem? h1, by rw [hfp]; rfl⟩
            have hex := HSH.out
            rw [hany] at hex
            have HEX := Lib.hid hex
            clear hex hany hfp hno h1
            go_wp2_with fail
            refine HPR.out.mono ?_
            rintro e w2 ⟨he, hb3⟩
            subst he
            go_wp2_with fail
            go_ret
            exact ⟨by rw [HEX.out]; rfl, hb2.trans (hb3.mono hb2.size)⟩
          · have hno' : ∀ (j : Nat) (f' : Fr), j < k + 1 → fs[j]? = some f' → ¬ f'.proper = false := by
              intro j f' hj hf'
              rcases Nat.lt_or_ge j k with h | h
              · exact hno j f' h hf'
              · have : j = k := by omega
                subst this
                rw [h1] at hf'
                cases hf'
                rw [hfp]; decide
            have HNO := Lib.hid hno'
            clear hno hno' hfp h1
            go_wp2_with fail
            refine HPR.out.mono ?_
            rintro e w2 ⟨he, hb3⟩
            subst he
            have hb4 := hb2.trans (hb3.mono hb2.size)
            go_wp2_with fail
            first
              | exact ⟨⟨k + 1, by omega, by first | rfl | go_num, HNO.out, hb4⟩, by simp [intOf]; omega⟩
              | (go_roundw
                 case rel => exact ⟨k + 1, by omega, by first | rfl | go_num, HNO.out, hb4⟩
                 case measure => simp [intOf]; omega)
        · obtain rfl : k = fs.length := by omega
          have hany : fs.any (fun f => !f.proper) = false := by
            rw [List.any_eq_false]
            intro f hf
            obtain ⟨j, hj⟩ := List.mem_iff_getElem?.1 hf
            have := hno j f (List.getElem?_eq_some_iff.1 hj).1 hj
            simpa using this
          have hex := HSH.out
          rw [hany] at hex
          have HEX := Lib.hid hex
          clear hex hany hno
          go_wp2_with fail
          go_ret
          exact ⟨by rw [HEX.out]; rfl, hb⟩
end Go.Proofs.Ytmmgbofhbnflkaa
namespace Go.Proofs.Ytmmgbofhbnflkaa
open Go.RowKit

/-! The reference's product and quotient of fractions. -/
theorem rexQ2 (f1 f2 : Fr) (n1 d1 n2 d2 : Value) (w : World) (h1 : FrV w f1 n1 d1) (h2 : FrV w f2 n2 d2) :
    Calls Try.prog 74 #[.slice (some ⟨w.heap.size, 0, none⟩) 2 2] (w.alloc (.cells #[.bool f1.neg, n1, d1, .bool f2.neg, n2, d2] 61)) fun e w' => e = .returned (.int .i64 (examQW [f1, f2])) ∧ Below (w.heap.size + 1) (w.alloc (.cells #[.bool f1.neg, n1, d1, .bool f2.neg, n2, d2] 61)) w' := by
  obtain ⟨W, hW⟩ : ∃ W, W = w.alloc (.cells #[.bool f1.neg, n1, d1, .bool f2.neg, n2, d2] 61) := ⟨_, rfl⟩
  have hb : Below w.heap.size w W := by rw [hW]; exact (Below.refl _ _).alloc (Nat.le_refl _) _
  have hrow : W.heap[w.heap.size]? = some (.cells #[.bool f1.neg, n1, d1, .bool f2.neg, n2, d2] 61 (0, 0)) := by rw [hW]; exact World.alloc_heap_new w _
  have hsz : W.heap.size = w.heap.size + 1 := by rw [hW]; simp
  rw [← hW]
  have g1 := h1.up hb
  have g2 := h2.up hb
  obtain ⟨A1, a1, rfl, -⟩ := g1.1.1.form
  obtain ⟨A2, a2, rfl, -⟩ := g1.2.1.form
  obtain ⟨A3, a3, rfl, -⟩ := g2.1.1.form
  obtain ⟨A4, a4, rfl, -⟩ := g2.2.1.form
  have h := rbadq_any w.heap.size 2 [f1, f2] W (by omega) (by simp) (fun k f hk => by
    match k, hk with
    | 0, hk =>
      simp at hk; subst hk
      exact ⟨_, _, _, _, _, _, by rw [Go.Joins.cell_of_block hrow]; rfl, by rw [Go.Joins.cell_of_block hrow]; rfl, by rw [Go.Joins.cell_of_block hrow]; rfl, g1.1, g1.2⟩
    | 1, hk =>
      simp at hk; subst hk
      exact ⟨_, _, _, _, _, _, by rw [Go.Joins.cell_of_block hrow]; rfl, by rw [Go.Joins.cell_of_block hrow]; rfl, by rw [Go.Joins.cell_of_block hrow]; rfl, g2.1, g2.2⟩)
  rw [hsz] at h
  exact h
/-- Both arguments and the result in memory. -/
def W3 (w : World) (a b : Bool) (n1 d1 n2 d2 : Value) : World := ((w.alloc (.cells #[.bool a, n1, d1] 61)).alloc (.cells #[.bool b, n2, d2] 61)).alloc (.cells #[.bool false, .slice none 0 0, .slice none 0 0] 61)
theorem fsum_start (w : World) (a b : Bool) (n1 d1 n2 d2 : Value) : FSum w a n1 d1 b n2 d2 (W3 w a b n1 d1 n2 d2) := by
  have b1 : Below w.heap.size w (w.alloc (.cells #[.bool a, n1, d1] 61)) := (Below.refl _ w).alloc (Nat.le_refl _) _
  have q1 := QB.new w a n1 d1
  have q2 := QB.new (w.alloc (.cells #[.bool a, n1, d1] 61)) b n2 d2
  have q3 := QB.new ((w.alloc (.cells #[.bool a, n1, d1] 61)).alloc (.cells #[.bool b, n2, d2] 61)) false (.slice none 0 0) (.slice none 0 0)
  have bA := fun (W : World) (o : Obj) => (Below.refl W.heap.size W).alloc (Nat.le_refl _) o
  rw [World.size_alloc] at q2
  rw [World.size_alloc, World.size_alloc] at q3
  exact ⟨(q1.below (bA _ _) q1.lt).below (bA _ _) (q1.below (bA _ _) q1.lt).lt, q2.below (bA _ _) q2.lt, q3, ((b1.alloc (by simp) _).alloc (by simp; omega) _)⟩
theorem W3_size (w : World) (a b : Bool) (n1 d1 n2 d2 : Value) : (W3 w a b n1 d1 n2 d2).heap.size = w.heap.size + 1 + 1 + 1 := by simp [W3]
theorem rexW3 (f1 f2 : Fr) (n1 d1 n2 d2 : Value) (w : World) (h1 : FrV w f1 n1 d1) (h2 : FrV w f2 n2 d2) :
    Calls Try.prog 74 #[.slice (some ⟨w.heap.size + 1 + 1 + 1, 0, none⟩) 2 2] ((W3 w f1.neg f2.neg n1 d1 n2 d2).alloc (.cells #[.bool f1.neg, n1, d1, .bool f2.neg, n2, d2] 61)) fun e w' => e = .returned (.int .i64 (examQW [f1, f2])) ∧ FSum w f1.neg n1 d1 f2.neg n2 d2 w' := by
  have hF := fsum_start w f1.neg f2.neg n1 d1 n2 d2
  have hex := rexQ2 f1 f2 n1 d1 n2 d2 (W3 w f1.neg f2.neg n1 d1 n2 d2) (h1.up hF.bl) (h2.up hF.bl)
  have hsz := W3_size w f1.neg f2.neg n1 d1 n2 d2
  generalize W3 w f1.neg f2.neg n1 d1 n2 d2 = W at *
  have hbA : Below W.heap.size W (W.alloc (.cells #[.bool f1.neg, n1, d1, .bool f2.neg, n2, d2] 61)) := (Below.refl _ _).alloc (Nat.le_refl _) _
  have hSA := hF.below hbA
  have hszA : (W.alloc (.cells #[.bool f1.neg, n1, d1, .bool f2.neg, n2, d2] 61)).heap.size = w.heap.size + 1 + 1 + 1 + 1 := by rw [World.size_alloc, hsz]
  rw [hsz] at hex
  exact hex.mono (fun e w' h => ⟨h.1, hSA.below (by rw [hszA]; exact h.2)⟩)
theorem rtimes_num {va vb : Value} {m n : Nat} {W : World} (ha : Num W W.heap.size va m) (hb : Num W W.heap.size vb n) (h1 : (dg m).length ≤ 1000000) (h2 : (dg n).length ≤ 1000000) :
    Calls Try.prog 76 #[va, vb] W (RNum0 W (m * n)) := by
  have h := rtimes_any va vb (dg m) (dg n) W ha hb (by omega) (by omega)
  rw [val_dg, val_dg] at h
  exact h.mono (fun e w' h => by obtain ⟨v, h1, h2, h3, -⟩ := h; exact ⟨v, h1, h2, h3⟩)
theorem rlow_num {u v : Value} {m n : Nat} {W : World} (sg : Bool) (ha : Num W W.heap.size u m) (hb : Num W W.heap.size v n) (hn : n ≠ 0) (h1 : (dg m).length ≤ 100000) (h2 : (dg n).length ≤ 100000) :
    Calls Try.prog 75 #[.bool sg, u, v] W (ResF W (lowW sg m n)) := (rlowest_any sg u v m n W ha hb hn (by omega) (by omega)).mono fun e w' h => h.forms
def qmulW (f1 f2 : Fr) : Bool × Nat × Nat × Int := if examQW [f1, f2] = 0 then lowW (f1.neg != f2.neg) (val f1.num * val f2.num) (val f1.den * val f2.den) else (false, 0, 0, examQW [f1, f2])
def qdivW (f1 f2 : Fr) : Bool × Nat × Nat × Int := if examQW [f1, f2] = 0 then (if val f2.num = 0 then (false, 0, 0, 4) else lowW (f1.neg != f2.neg) (val f1.num * val f2.den) (val f1.den * val f2.num)) else (false, 0, 0, examQW [f1, f2])
theorem lenz {l : List Nat} (h : dg (val l) = l) : l.length = 0 ↔ val l = 0 := by
  conv => lhs; rw [← h]
  exact dg_zero_iff

set_option maxRecDepth 100000 in
set_option maxHeartbeats 4000000 in
theorem rQMul_any (f1 f2 : Fr) (n1 d1 n2 d2 : Value) (w : World) (h1 : FrV w f1 n1 d1) (h2 : FrV w f2 n2 d2) :
    Calls Try.prog 52 #[.agg #[.bool f1.neg, n1, d1], .agg #[.bool f2.neg, n2, d2]] w (ResW w (qmulW f1 f2)) := by
  have hF := fsum_start w f1.neg f2.neg n1 d1 n2 d2
  have hex := rexW3 f1 f2 n1 d1 n2 d2 w h1 h2
  unfold W3 at hF hex
  have hok : examQW [f1, f2] = 0 → ∀ W', Below w.heap.size w W' → _ := fun h0 W' hW' => (⟨(h1.up hW').ok (examQW_ok h0 f1 (by simp)), (h2.up hW').ok (examQW_ok h0 f2 (by simp))⟩ : _ ∧ _)
  have ht1 : examQW [f1, f2] = 0 → ∀ W', Below w.heap.size w W' → Calls Try.prog 76 #[n1, n2] W' (RNum0 W' (val f1.num * val f2.num)) := by
    intro h0 W' hW'
    obtain ⟨⟨a1, a2, a3, a4, a5⟩, ⟨b1, b2, b3, b4, b5⟩⟩ := hok h0 W' hW'
    exact rtimes_num a1 b1 (by omega) (by omega)
  have ht2 : examQW [f1, f2] = 0 → ∀ W', Below w.heap.size w W' → Calls Try.prog 76 #[d1, d2] W' (RNum0 W' (val f1.den * val f2.den)) := by
    intro h0 W' hW'
    obtain ⟨⟨a1, a2, a3, a4, a5⟩, ⟨b1, b2, b3, b4, b5⟩⟩ := hok h0 W' hW'
    exact rtimes_num a2 b2 (by omega) (by omega)
  have hlo : examQW [f1, f2] = 0 → ∀ W' u v, Num W' W'.heap.size u (val f1.num * val f2.num) → Num W' W'.heap.size v (val f1.den * val f2.den) → Calls Try.prog 75 #[.bool (f1.neg != f2.neg), u, v] W' (ResF W' (lowW (f1.neg != f2.neg) (val f1.num * val f2.num) (val f1.den * val f2.den))) := by
    intro h0 W' u v hu hv
    obtain ⟨⟨a1, a2, a3, a4, a5⟩, ⟨b1, b2, b3, b4, b5⟩⟩ := hok h0 w (Below.refl _ _)
    have m1 := len_mul (val f1.num) (val f2.num)
    have m2 := len_mul (val f1.den) (val f2.den)
    exact rlow_num _ hu hv (Nat.mul_ne_zero a3 b3) (by omega) (by omega)
  have c0 := hF.qa.c0
  have c1 := hF.qa.c1
  have c2 := hF.qa.c2
  have d0 := hF.qb.c0
  have d1' := hF.qb.c1
  have d2' := hF.qb.c2
  have fn1 := h1.1.1.form
  have fd1 := h1.2.1.form
  have fn2 := h2.1.1.form
  have fd2 := h2.2.1.form
  obtain ⟨A1, e1, rfl, -⟩ := fn1
  obtain ⟨A2, e2, rfl, -⟩ := fd1
  obtain ⟨A3, e3, rfl, -⟩ := fn2
  obtain ⟨A4, e4, rfl, -⟩ := fd2
  unfold qmulW
  obtain ⟨sg, hsg⟩ : ∃ sg, sg = (f1.neg != f2.neg) := ⟨_, rfl⟩
  have qs : (f1.neg == f2.neg) = !sg := by rw [hsg]; simp [bne]
  rw [← hsg] at hlo ⊢
  clear hsg
  generalize lowW sg (val f1.num * val f2.num) (val f1.den * val f2.den) = fr at *
  generalize val f1.num * val f2.num = x at *
  generalize val f1.den * val f2.den = y at *
  generalize examQW [f1, f2] = ec at *
  have HEX := Lib.hid hex
  have HT1 := Lib.hid ht1
  have HT2 := Lib.hid ht2
  have HLO := Lib.hid hlo
  clear hex ht1 ht2 hlo hok hF h1 h2
  generalize f1.neg = s1 at *
  generalize f2.neg = s2 at *
  generalize f1.num.length = l1 at *
  generalize f1.den.length = l2 at *
  generalize f2.num.length = l3 at *
  generalize f2.den.length = l4 at *
  by_cases h0 : ec = 0
  · subst h0
    rw [if_pos rfl]
    have HU1 := Lib.hid (HT1.out rfl)
    have HU2 := Lib.hid (HT2.out rfl)
    have HUL := Lib.hid (HLO.out rfl)
    clear HT1 HT2 HLO
    obtain ⟨rs, rm, rn, re⟩ := fr
    go_enter Try.func52, Try.ntmps52
    go_wp2_with fail
    refine HEX.out.mono ?_
    rintro e w2 ⟨he, hS2⟩
    subst he
    have x0 := hS2.qa.c0
    have x1 := hS2.qa.c1
    have x2 := hS2.qa.c2
    have y0 := hS2.qb.c0
    have y1 := hS2.qb.c1
    have y2 := hS2.qb.c2
    have r0 := hS2.qr.c0
    have r1 := hS2.qr.c1
    have r2 := hS2.qr.c2
    have r3 := hS2.qr.fr 0
    have r4 := hS2.qr.fr 1
    have r5 := hS2.qr.fr 2
    go_wp2_with fail
    go_region_held3 (fun w' => w'.cell? ⟨w.heap.size, 0, none⟩ = some (.bool s1) ∧ w'.cell? ⟨w.heap.size, 1, none⟩ = some (.slice A1 l1 e1) ∧ w'.cell? ⟨w.heap.size, 2, none⟩ = some (.slice A2 l2 e2) ∧ w'.cell? ⟨w.heap.size + 1, 0, none⟩ = some (.bool s2) ∧ w'.cell? ⟨w.heap.size + 1, 1, none⟩ = some (.slice A3 l3 e3) ∧ w'.cell? ⟨w.heap.size + 1, 2, none⟩ = some (.slice A4 l4 e4))
      (((try dsimp only); refine ⟨?_, ?_, ?_, ?_, ?_, ?_⟩ <;> first | with_reducible assumption | with_reducible exact kpx0 _ _ _ | with_reducible exact kpx1 _ _ _ | with_reducible exact kpx2 _ _ _ | with_reducible exact kpy0 _ _ _ | with_reducible exact kpy1 _ _ _ | with_reducible exact kpy2 _ _ _ | go_keep))
      (first
        | (go_at_call 76; refine Calls.mono (HU1.out _ (FSum.bl hS2.drew)) ?_; rintro e w3 ⟨vx, he, hvx, hba⟩; subst he; have hSa := FSum.below hS2.drew hba; have x0a := hSa.qa.c0; have x1a := hSa.qa.c1; have x2a := hSa.qa.c2; have y0a := hSa.qb.c0; have y1a := hSa.qb.c1; have y2a := hSa.qb.c2; have r0a := hSa.qr.c0; have r1a := hSa.qr.c1; have r2a := hSa.qr.c2; have r3a := hSa.qr.fr 0; have r4a := hSa.qr.fr 1; have r5a := hSa.qr.fr 2; clear HU1)
        | (go_at_call 76; refine Calls.mono (HU2.out _ (FSum.bl hSa)) ?_; rintro e w4 ⟨vy, he, hvy, hbb⟩; subst he; have hSb := FSum.below hSa hbb; have x0b := hSb.qa.c0; have x1b := hSb.qa.c1; have x2b := hSb.qa.c2; have y0b := hSb.qb.c0; have y1b := hSb.qb.c1; have y2b := hSb.qb.c2; have r0b := hSb.qr.c0; have r1b := hSb.qr.c1; have r2b := hSb.qr.c2; have r3b := hSb.qr.fr 0; have r4b := hSb.qr.fr 1; have r5b := hSb.qr.fr 2; clear HU2; have hvx4 := Lim.up hvx hbb)
        | (go_at_call 75; refine Calls.mono (HUL.out _ _ _ hvx4 hvy) ?_; rintro e w5 ⟨Bn, ln, cn, Bd, ld, cd, he, hvn, hvd, hbc⟩; subst he; have hSc := FSum.below hSb hbc; have x0c := hSc.qa.c0; have x1c := hSc.qa.c1; have x2c := hSc.qa.c2; have y0c := hSc.qb.c0; have y1c := hSc.qb.c1; have y2c := hSc.qb.c2; have r0c := hSc.qr.c0; have r1c := hSc.qr.c1; have r2c := hSc.qr.c2; have r3c := hSc.qr.fr 0; have r4c := hSc.qr.fr 1; have r5c := hSc.qr.fr 2; clear HUL; have kpx0 := cell_other3 (k := w.heap.size + 1 + 1) x0c (by omega); have kpx1 := cell_other3 (k := w.heap.size + 1 + 1) x1c (by omega); have kpx2 := cell_other3 (k := w.heap.size + 1 + 1) x2c (by omega); have kpy0 := cell_other3 (k := w.heap.size + 1 + 1) y0c (by omega); have kpy1 := cell_other3 (k := w.heap.size + 1 + 1) y1c (by omega); have kpy2 := cell_other3 (k := w.heap.size + 1 + 1) y2c (by omega)))
    go_wp2_with fail
    change bodyPost _ _ _ Exit.ret _ (wroteQ w5 (w.heap.size + 1 + 1) rs (.slice Bn ln cn) (.slice Bd ld cd))
    have g1 := hSc.qr.write rs (.slice Bn ln cn) (.slice Bd ld cd)
    have g2 : Num (wroteQ w5 (w.heap.size + 1 + 1) rs (.slice Bn ln cn) (.slice Bd ld cd)) w5.heap.size (.slice Bn ln cn) rm := Lim.wroteQ hvn hSc.qr rs _ _
    have g3 : Num (wroteQ w5 (w.heap.size + 1 + 1) rs (.slice Bn ln cn) (.slice Bd ld cd)) w5.heap.size (.slice Bd ld cd) rn := Lim.wroteQ hvd hSc.qr rs _ _
    have g4 := wroteQ_below hSc.bl (show w.heap.size ≤ w.heap.size + 1 + 1 by omega) rs (.slice Bn ln cn) (.slice Bd ld cd)
    have g5 : w5.heap.size ≤ (wroteQ w5 (w.heap.size + 1 + 1) rs (.slice Bn ln cn) (.slice Bd ld cd)).heap.size := by simp [wroteQ, World.setCell]
    generalize wroteQ w5 (w.heap.size + 1 + 1) rs (.slice Bn ln cn) (.slice Bd ld cd) = W9 at g1 g2 g3 g4 g5 ⊢
    have k0 := g1.c0
    have k1 := g1.c1
    have k2 := g1.c2
    refine bodyPost_ret (v := .tuple #[.agg #[.bool rs, .slice Bn ln cn, .slice Bd ld cd], .int .i64 re]) ?_ rfl ⟨_, _, rfl, Lim.more g2 g5, Lim.more g3 g5, g4⟩
    simp [results, Try.results52, k0, k1, k2, go_sem]
  · rw [if_neg h0]
    have q1 : (ec == 0) = false := by simp [h0]
    have q2 : (ec != 0) = true := by simp [h0]
    clear h0 HT1 HT2 HLO
    go_enter Try.func52, Try.ntmps52
    go_wp2_with fail
    refine HEX.out.mono ?_
    rintro e w2 ⟨he, hS2⟩
    subst he
    have x0 := hS2.qa.c0
    have x1 := hS2.qa.c1
    have x2 := hS2.qa.c2
    have y0 := hS2.qb.c0
    have y1 := hS2.qb.c1
    have y2 := hS2.qb.c2
    have r0 := hS2.qr.c0
    have r1 := hS2.qr.c1
    have r2 := hS2.qr.c2
    have r3 := hS2.qr.fr 0
    have r4 := hS2.qr.fr 1
    have r5 := hS2.qr.fr 2
    go_wp2_with fail
    change bodyPost _ _ _ Exit.ret _ (wroteQ w2 (w.heap.size + 1 + 1) false (.slice none 0 0) (.slice none 0 0))
    have g1 := hS2.qr.write false (.slice none 0 0) (.slice none 0 0)
    have g4 := wroteQ_below hS2.bl (show w.heap.size ≤ w.heap.size + 1 + 1 by omega) false (.slice none 0 0) (.slice none 0 0)
    generalize wroteQ w2 (w.heap.size + 1 + 1) false (.slice none 0 0) (.slice none 0 0) = W9 at g1 g4 ⊢
    have k0 := g1.c0
    have k1 := g1.c1
    have k2 := g1.c2
    refine bodyPost_ret (v := .tuple #[.agg #[.bool false, .slice none 0 0, .slice none 0 0], .int .i64 ec]) ?_ rfl ⟨_, _, rfl, Num.zero _ _, Num.zero _ _, g4⟩
    simp [results, Try.results52, k0, k1, k2, go_sem]

set_option maxRecDepth 100000 in
set_option maxHeartbeats 4000000 in
theorem rQDiv_any (f1 f2 : Fr) (n1 d1 n2 d2 : Value) (w : World) (h1 : FrV w f1 n1 d1) (h2 : FrV w f2 n2 d2) :
    Calls Try.prog 73 #[.agg #[.bool f1.neg, n1, d1], .agg #[.bool f2.neg, n2, d2]] w (ResW w (qdivW f1 f2)) := by
  have hF := fsum_start w f1.neg f2.neg n1 d1 n2 d2
  have hex := rexW3 f1 f2 n1 d1 n2 d2 w h1 h2
  unfold W3 at hF hex
  have hok : examQW [f1, f2] = 0 → ∀ W', Below w.heap.size w W' → _ := fun h0 W' hW' => (⟨(h1.up hW').ok (examQW_ok h0 f1 (by simp)), (h2.up hW').ok (examQW_ok h0 f2 (by simp))⟩ : _ ∧ _)
  have ht1 : examQW [f1, f2] = 0 → val f2.num ≠ 0 → ∀ W', Below w.heap.size w W' → Calls Try.prog 76 #[n1, d2] W' (RNum0 W' (val f1.num * val f2.den)) := by
    intro h0 hz W' hW'
    obtain ⟨⟨a1, a2, a3, a4, a5⟩, ⟨b1, b2, b3, b4, b5⟩⟩ := hok h0 W' hW'
    exact rtimes_num a1 b2 (by omega) (by omega)
  have ht2 : examQW [f1, f2] = 0 → val f2.num ≠ 0 → ∀ W', Below w.heap.size w W' → Calls Try.prog 76 #[d1, n2] W' (RNum0 W' (val f1.den * val f2.num)) := by
    intro h0 hz W' hW'
    obtain ⟨⟨a1, a2, a3, a4, a5⟩, ⟨b1, b2, b3, b4, b5⟩⟩ := hok h0 W' hW'
    exact rtimes_num a2 b1 (by omega) (by omega)
  have hlo : examQW [f1, f2] = 0 → val f2.num ≠ 0 → ∀ W' u v, Num W' W'.heap.size u (val f1.num * val f2.den) → Num W' W'.heap.size v (val f1.den * val f2.num) → Calls Try.prog 75 #[.bool (f1.neg != f2.neg), u, v] W' (ResF W' (lowW (f1.neg != f2.neg) (val f1.num * val f2.den) (val f1.den * val f2.num))) := by
    intro h0 hz W' u v hu hv
    obtain ⟨⟨a1, a2, a3, a4, a5⟩, ⟨b1, b2, b3, b4, b5⟩⟩ := hok h0 w (Below.refl _ _)
    have m1 := len_mul (val f1.num) (val f2.den)
    have m2 := len_mul (val f1.den) (val f2.num)
    exact rlow_num _ hu hv (Nat.mul_ne_zero a3 hz) (by omega) (by omega)
  have hlz : examQW [f1, f2] = 0 → (f2.num.length = 0 ↔ val f2.num = 0) := fun h0 => lenz (h2.1.num (properW_ok (examQW_ok h0 f2 (by simp))).1 (by simp)).2.2
  have c0 := hF.qa.c0
  have c1 := hF.qa.c1
  have c2 := hF.qa.c2
  have d0 := hF.qb.c0
  have d1' := hF.qb.c1
  have d2' := hF.qb.c2
  have fn1 := h1.1.1.form
  have fd1 := h1.2.1.form
  have fn2 := h2.1.1.form
  have fd2 := h2.2.1.form
  obtain ⟨A1, e1, rfl, -⟩ := fn1
  obtain ⟨A2, e2, rfl, -⟩ := fd1
  obtain ⟨A3, e3, rfl, -⟩ := fn2
  obtain ⟨A4, e4, rfl, -⟩ := fd2
  unfold qdivW
  obtain ⟨sg, hsg⟩ : ∃ sg, sg = (f1.neg != f2.neg) := ⟨_, rfl⟩
  have qs : (f1.neg == f2.neg) = !sg := by rw [hsg]; simp [bne]
  rw [← hsg] at hlo ⊢
  clear hsg
  generalize lowW sg (val f1.num * val f2.den) (val f1.den * val f2.num) = fr at *
  generalize val f1.num * val f2.den = x at *
  generalize val f1.den * val f2.num = y at *
  generalize examQW [f1, f2] = ec at *
  have HEX := Lib.hid hex
  have HT1 := Lib.hid ht1
  have HT2 := Lib.hid ht2
  have HLO := Lib.hid hlo
  clear hex ht1 ht2 hlo hok hF h1 h2
  have HLZ := Lib.hid hlz
  clear hlz
  generalize val f2.num = vn at *
  generalize f1.neg = s1 at *
  generalize f2.neg = s2 at *
  generalize f1.num.length = l1 at *
  generalize f1.den.length = l2 at *
  generalize f2.num.length = l3 at *
  generalize f2.den.length = l4 at *
  by_cases h0 : ec = 0
  · subst h0
    rw [if_pos rfl]
    have HLZ := Lib.hid (HLZ.out rfl)
    by_cases hz : vn = 0
    · rw [if_pos hz]
      obtain rfl : l3 = 0 := HLZ.out.2 hz
      clear HT1 HT2 HLO HLZ hz
      go_enter Try.func73, Try.ntmps73
      go_wp2_with fail
      refine HEX.out.mono ?_
      rintro e w2 ⟨he, hS2⟩
      subst he
      have x0 := hS2.qa.c0
      have x1 := hS2.qa.c1
      have x2 := hS2.qa.c2
      have y0 := hS2.qb.c0
      have y1 := hS2.qb.c1
      have y2 := hS2.qb.c2
      have r0 := hS2.qr.c0
      have r1 := hS2.qr.c1
      have r2 := hS2.qr.c2
      have r3 := hS2.qr.fr 0
      have r4 := hS2.qr.fr 1
      have r5 := hS2.qr.fr 2
      go_wp2_with fail
      change bodyPost _ _ _ Exit.ret _ (wroteQ w2 (w.heap.size + 1 + 1) false (.slice none 0 0) (.slice none 0 0))
      have g1 := hS2.qr.write false (.slice none 0 0) (.slice none 0 0)
      have g4 := wroteQ_below hS2.bl (show w.heap.size ≤ w.heap.size + 1 + 1 by omega) false (.slice none 0 0) (.slice none 0 0)
      generalize wroteQ w2 (w.heap.size + 1 + 1) false (.slice none 0 0) (.slice none 0 0) = W9 at g1 g4 ⊢
      have k0 := g1.c0
      have k1 := g1.c1
      have k2 := g1.c2
      refine bodyPost_ret (v := .tuple #[.agg #[.bool false, .slice none 0 0, .slice none 0 0], .int .i64 4]) ?_ rfl ⟨_, _, rfl, Num.zero _ _, Num.zero _ _, g4⟩
      simp [results, Try.results73, k0, k1, k2, go_sem]
    · rw [if_neg hz]
      have hl3 : l3 ≠ 0 := fun h => hz (HLZ.out.1 h)
      have HU1 := Lib.hid (HT1.out rfl hz)
      have HU2 := Lib.hid (HT2.out rfl hz)
      have HUL := Lib.hid (HLO.out rfl hz)
      have q3 : ((l3 : Int) == 0) = false := by simp; omega
      clear HLZ hz hl3 HT1 HT2 HLO
      obtain ⟨rs, rm, rn, re⟩ := fr
      go_enter Try.func73, Try.ntmps73
      go_wp2_with fail
      refine HEX.out.mono ?_
      rintro e w2 ⟨he, hS2⟩
      subst he
      have x0 := hS2.qa.c0
      have x1 := hS2.qa.c1
      have x2 := hS2.qa.c2
      have y0 := hS2.qb.c0
      have y1 := hS2.qb.c1
      have y2 := hS2.qb.c2
      have r0 := hS2.qr.c0
      have r1 := hS2.qr.c1
      have r2 := hS2.qr.c2
      have r3 := hS2.qr.fr 0
      have r4 := hS2.qr.fr 1
      have r5 := hS2.qr.fr 2
      go_wp2_with fail
      go_region_held3 (fun w' => w'.cell? ⟨w.heap.size, 0, none⟩ = some (.bool s1) ∧ w'.cell? ⟨w.heap.size, 1, none⟩ = some (.slice A1 l1 e1) ∧ w'.cell? ⟨w.heap.size, 2, none⟩ = some (.slice A2 l2 e2) ∧ w'.cell? ⟨w.heap.size + 1, 0, none⟩ = some (.bool s2) ∧ w'.cell? ⟨w.heap.size + 1, 1, none⟩ = some (.slice A3 l3 e3) ∧ w'.cell? ⟨w.heap.size + 1, 2, none⟩ = some (.slice A4 l4 e4))
        (((try dsimp only); refine ⟨?_, ?_, ?_, ?_, ?_, ?_⟩ <;> first | with_reducible assumption | with_reducible exact kpx0 _ _ _ | with_reducible exact kpx1 _ _ _ | with_reducible exact kpx2 _ _ _ | with_reducible exact kpy0 _ _ _ | with_reducible exact kpy1 _ _ _ | with_reducible exact kpy2 _ _ _ | go_keep))
        (first
          | (go_at_call 76; refine Calls.mono (HU1.out _ (FSum.bl hS2.drew)) ?_; rintro e w3 ⟨vx, he, hvx, hba⟩; subst he; have hSa := FSum.below hS2.drew hba; have x0a := hSa.qa.c0; have x1a := hSa.qa.c1; have x2a := hSa.qa.c2; have y0a := hSa.qb.c0; have y1a := hSa.qb.c1; have y2a := hSa.qb.c2; have r0a := hSa.qr.c0; have r1a := hSa.qr.c1; have r2a := hSa.qr.c2; have r3a := hSa.qr.fr 0; have r4a := hSa.qr.fr 1; have r5a := hSa.qr.fr 2; clear HU1)
          | (go_at_call 76; refine Calls.mono (HU2.out _ (FSum.bl hSa)) ?_; rintro e w4 ⟨vy, he, hvy, hbb⟩; subst he; have hSb := FSum.below hSa hbb; have x0b := hSb.qa.c0; have x1b := hSb.qa.c1; have x2b := hSb.qa.c2; have y0b := hSb.qb.c0; have y1b := hSb.qb.c1; have y2b := hSb.qb.c2; have r0b := hSb.qr.c0; have r1b := hSb.qr.c1; have r2b := hSb.qr.c2; have r3b := hSb.qr.fr 0; have r4b := hSb.qr.fr 1; have r5b := hSb.qr.fr 2; clear HU2; have hvx4 := Lim.up hvx hbb)
          | (go_at_call 75; refine Calls.mono (HUL.out _ _ _ hvx4 hvy) ?_; rintro e w5 ⟨Bn, ln, cn, Bd, ld, cd, he, hvn, hvd, hbc⟩; subst he; have hSc := FSum.below hSb hbc; have x0c := hSc.qa.c0; have x1c := hSc.qa.c1; have x2c := hSc.qa.c2; have y0c := hSc.qb.c0; have y1c := hSc.qb.c1; have y2c := hSc.qb.c2; have r0c := hSc.qr.c0; have r1c := hSc.qr.c1; have r2c := hSc.qr.c2; have r3c := hSc.qr.fr 0; have r4c := hSc.qr.fr 1; have r5c := hSc.qr.fr 2; clear HUL; have kpx0 := cell_other3 (k := w.heap.size + 1 + 1) x0c (by omega); have kpx1 := cell_other3 (k := w.heap.size + 1 + 1) x1c (by omega); have kpx2 := cell_other3 (k := w.heap.size + 1 + 1) x2c (by omega); have kpy0 := cell_other3 (k := w.heap.size + 1 + 1) y0c (by omega); have kpy1 := cell_other3 (k := w.heap.size + 1 + 1) y1c (by omega); have kpy2 := cell_other3 (k := w.heap.size + 1 + 1) y2c (by omega)))
      go_wp2_with fail
      change bodyPost _ _ _ Exit.ret _ (wroteQ w5 (w.heap.size + 1 + 1) rs (.slice Bn ln cn) (.slice Bd ld cd))
      have g1 := hSc.qr.write rs (.slice Bn ln cn) (.slice Bd ld cd)
      have g2 : Num (wroteQ w5 (w.heap.size + 1 + 1) rs (.slice Bn ln cn) (.slice Bd ld cd)) w5.heap.size (.slice Bn ln cn) rm := Lim.wroteQ hvn hSc.qr rs _ _
      have g3 : Num (wroteQ w5 (w.heap.size + 1 + 1) rs (.slice Bn ln cn) (.slice Bd ld cd)) w5.heap.size (.slice Bd ld cd) rn := Lim.wroteQ hvd hSc.qr rs _ _
      have g4 := wroteQ_below hSc.bl (show w.heap.size ≤ w.heap.size + 1 + 1 by omega) rs (.slice Bn ln cn) (.slice Bd ld cd)
      have g5 : w5.heap.size ≤ (wroteQ w5 (w.heap.size + 1 + 1) rs (.slice Bn ln cn) (.slice Bd ld cd)).heap.size := by simp [wroteQ, World.setCell]
      generalize wroteQ w5 (w.heap.size + 1 + 1) rs (.slice Bn ln cn) (.slice Bd ld cd) = W9 at g1 g2 g3 g4 g5 ⊢
      have k0 := g1.c0
      have k1 := g1.c1
      have k2 := g1.c2
      refine bodyPost_ret (v := .tuple #[.agg #[.bool rs, .slice Bn ln cn, .slice Bd ld cd], .int .i64 re]) ?_ rfl ⟨_, _, rfl, Lim.more g2 g5, Lim.more g3 g5, g4⟩
      simp [results, Try.results73, k0, k1, k2, go_sem]
  · rw [if_neg h0]
    have q1 : (ec == 0) = false := by simp [h0]
    have q2 : (ec != 0) = true := by simp [h0]
    clear h0 HT1 HT2 HLO HLZ
    go_enter Try.func73, Try.ntmps73
    go_wp2_with fail
    refine HEX.out.mono ?_
    rintro e w2 ⟨he, hS2⟩
    subst he
    have x0 := hS2.qa.c0
    have x1 := hS2.qa.c1
    have x2 := hS2.qa.c2
    have y0 := hS2.qb.c0
    have y1 := hS2.qb.c1
    have y2 := hS2.qb.c2
    have r0 := hS2.qr.c0
    have r1 := hS2.qr.c1
    have r2 := hS2.qr.c2
    have r3 := hS2.qr.fr 0
    have r4 := hS2.qr.fr 1
    have r5 := hS2.qr.fr 2
    go_wp2_with fail
    change bodyPost _ _ _ Exit.ret _ (wroteQ w2 (w.heap.size + 1 + 1) false (.slice none 0 0) (.slice none 0 0))
    have g1 := hS2.qr.write false (.slice none 0 0) (.slice none 0 0)
    have g4 := wroteQ_below hS2.bl (show w.heap.size ≤ w.heap.size + 1 + 1 by omega) false (.slice none 0 0) (.slice none 0 0)
    generalize wroteQ w2 (w.heap.size + 1 + 1) false (.slice none 0 0) (.slice none 0 0) = W9 at g1 g4 ⊢
    have k0 := g1.c0
    have k1 := g1.c1
    have k2 := g1.c2
    refine bodyPost_ret (v := .tuple #[.agg #[.bool false, .slice none 0 0, .slice none 0 0], .int .i64 ec]) ?_ rfl ⟨_, _, rfl, Num.zero _ _, Num.zero _ _, g4⟩
    simp [results, Try.results73, k0, k1, k2, go_sem]
end Go.Proofs.Ytmmgbofhbnflkaa
namespace Go.Proofs.Ytmmgbofhbnflkaa
open Go.RowKit

/-! The reference's sum of fractions. -/
theorem rplus_num {u v : Value} {m n : Nat} {W : World} (ha : Num W W.heap.size u m) (hb : Num W W.heap.size v n) (h1 : (dg m).length ≤ 1000000) (h2 : (dg n).length ≤ 1000000) :
    Calls Try.prog 84 #[u, v] W (RNum0 W (m + n)) := by
  have h := rplus_any u v (dg m) (dg n) W ha hb (by omega) (by omega)
  rw [val_dg, val_dg] at h
  exact h.mono (fun e w' h => by obtain ⟨v, h1, h2, h3, -⟩ := h; exact ⟨v, h1, h2, h3⟩)
theorem rminus_num {u v : Value} {m n : Nat} {W : World} (ha : Num W W.heap.size u m) (hb : Num W W.heap.size v n) (h1 : (dg m).length ≤ 1000000) (hle : n ≤ m) :
    Calls Try.prog 99 #[u, v] W (RNum0 W (m - n)) := by
  have h := rminus_any u v (dg m) (dg n) W ha hb (by omega) (by rw [val_dg, val_dg]; exact hle)
  rw [val_dg, val_dg] at h
  exact h.mono (fun e w' h => by obtain ⟨v, h1, h2, h3, -⟩ := h; exact ⟨v, h1, h2, h3⟩)
theorem rorder_num {u v : Value} {m n : Nat} {W : World} (ha : Num W W.heap.size u m) (hb : Num W W.heap.size v n) (h1 : (dg m).length ≤ 1000000) (h2 : (dg n).length ≤ 1000000) :
    Calls Try.prog 63 #[u, v] W fun e w' => e = .returned (.int .i64 (cmpI m n)) ∧ W = w' := by
  have h := rorder_any u v (dg m) (dg n) W.heap.size W ha hb (by omega) (by omega)
  rw [val_dg, val_dg] at h
  exact h
theorem len_add (x y : Nat) : (dg (x + y)).length ≤ (dg x).length + (dg y).length + 1 := by
  refine dg_le.2 ?_
  have h1 := lt_dg x
  have h2 := lt_dg y
  have h3 : LB ^ (dg x).length ≤ LB ^ ((dg x).length + (dg y).length) := Nat.pow_le_pow_right LB_pos (by omega)
  have h4 : LB ^ (dg y).length ≤ LB ^ ((dg x).length + (dg y).length) := Nat.pow_le_pow_right LB_pos (by omega)
  have h5 : LB ^ ((dg x).length + (dg y).length) * 2 ≤ LB ^ ((dg x).length + (dg y).length + 1) := by rw [Nat.pow_succ]; exact Nat.mul_le_mul_left _ LB_two
  omega

set_option maxRecDepth 100000 in
set_option maxHeartbeats 4000000 in
theorem rQAdd_any (f1 f2 : Fr) (n1 d1 n2 d2 : Value) (w : World) (h1 : FrV w f1 n1 d1) (h2 : FrV w f2 n2 d2) :
    Calls Try.prog 87 #[.agg #[.bool f1.neg, n1, d1], .agg #[.bool f2.neg, n2, d2]] w (ResW w (qaddW f1 f2)) := by
  have hF := fsum_start w f1.neg f2.neg n1 d1 n2 d2
  have hex := rexW3 f1 f2 n1 d1 n2 d2 w h1 h2
  unfold W3 at hF hex
  have hok : examQW [f1, f2] = 0 → ∀ W', Below w.heap.size w W' → _ := fun h0 W' hW' => (⟨(h1.up hW').ok (examQW_ok h0 f1 (by simp)), (h2.up hW').ok (examQW_ok h0 f2 (by simp))⟩ : _ ∧ _)
  have ht1 : examQW [f1, f2] = 0 → ∀ W', Below w.heap.size w W' → Calls Try.prog 76 #[n1, d2] W' (RNum0 W' (val f1.num * val f2.den)) := by
    intro h0 W' hW'
    obtain ⟨⟨a1, a2, a3, a4, a5⟩, ⟨b1, b2, b3, b4, b5⟩⟩ := hok h0 W' hW'
    exact rtimes_num a1 b2 (by omega) (by omega)
  have ht2 : examQW [f1, f2] = 0 → ∀ W', Below w.heap.size w W' → Calls Try.prog 76 #[n2, d1] W' (RNum0 W' (val f2.num * val f1.den)) := by
    intro h0 W' hW'
    obtain ⟨⟨a1, a2, a3, a4, a5⟩, ⟨b1, b2, b3, b4, b5⟩⟩ := hok h0 W' hW'
    exact rtimes_num b1 a2 (by omega) (by omega)
  have ht3 : examQW [f1, f2] = 0 → ∀ W', Below w.heap.size w W' → Calls Try.prog 76 #[d1, d2] W' (RNum0 W' (val f1.den * val f2.den)) := by
    intro h0 W' hW'
    obtain ⟨⟨a1, a2, a3, a4, a5⟩, ⟨b1, b2, b3, b4, b5⟩⟩ := hok h0 W' hW'
    exact rtimes_num a2 b2 (by omega) (by omega)
  have hsz : examQW [f1, f2] = 0 → (dg (val f1.num * val f2.den)).length ≤ 10000 ∧ (dg (val f2.num * val f1.den)).length ≤ 10000 ∧ (dg (val f1.den * val f2.den)).length ≤ 10000 ∧ val f1.den * val f2.den ≠ 0 := by
    intro h0
    obtain ⟨⟨a1, a2, a3, a4, a5⟩, ⟨b1, b2, b3, b4, b5⟩⟩ := hok h0 w (Below.refl _ _)
    have m1 := len_mul (val f1.num) (val f2.den)
    have m2 := len_mul (val f2.num) (val f1.den)
    have m3 := len_mul (val f1.den) (val f2.den)
    exact ⟨by omega, by omega, by omega, Nat.mul_ne_zero a3 b3⟩
  have c0 := hF.qa.c0
  have c1 := hF.qa.c1
  have c2 := hF.qa.c2
  have d0 := hF.qb.c0
  have d1' := hF.qb.c1
  have d2' := hF.qb.c2
  have fn1 := h1.1.1.form
  have fd1 := h1.2.1.form
  have fn2 := h2.1.1.form
  have fd2 := h2.2.1.form
  obtain ⟨A1, e1, rfl, -⟩ := fn1
  obtain ⟨A2, e2, rfl, -⟩ := fd1
  obtain ⟨A3, e3, rfl, -⟩ := fn2
  obtain ⟨A4, e4, rfl, -⟩ := fd2
  unfold qaddW fsumW
  generalize val f1.num * val f2.den = x at *
  generalize val f2.num * val f1.den = y at *
  generalize val f1.den * val f2.den = d at *
  generalize examQW [f1, f2] = ec at *
  have HEX := Lib.hid hex
  have HT1 := Lib.hid ht1
  have HT2 := Lib.hid ht2
  have HT3 := Lib.hid ht3
  have HSZ := Lib.hid hsz
  clear hex ht1 ht2 ht3 hsz hok hF h1 h2
  generalize f1.neg = s1 at *
  generalize f2.neg = s2 at *
  generalize f1.num.length = l1 at *
  generalize f1.den.length = l2 at *
  generalize f2.num.length = l3 at *
  generalize f2.den.length = l4 at *
  by_cases h0 : ec = 0
  · subst h0
    rw [if_pos rfl]
    have HU1 := Lib.hid (HT1.out rfl)
    have HU2 := Lib.hid (HT2.out rfl)
    have HU3 := Lib.hid (HT3.out rfl)
    obtain ⟨sx, sy, sd, dz⟩ := HSZ.out rfl
    have SX := Lib.hid sx
    have SY := Lib.hid sy
    have SD := Lib.hid sd
    have DZ := Lib.hid dz
    clear HT1 HT2 HT3 HSZ sx sy sd dz
    obtain ⟨res, hres⟩ : ∃ res : Bool × Nat × Nat × Int, res = if s1 = s2 then lowW s1 (x + y) d else if x < y then lowW s2 (y - x) d else lowW s1 (x - y) d := ⟨_, rfl⟩
    rw [← hres]
    have HRES := Lib.hid hres
    clear hres
    go_enter Try.func87, Try.ntmps87
    go_wp2_with fail
    refine HEX.out.mono ?_
    rintro e w2 ⟨he, hS2⟩
    subst he
    have x0 := hS2.qa.c0
    have x1 := hS2.qa.c1
    have x2 := hS2.qa.c2
    have y0 := hS2.qb.c0
    have y1 := hS2.qb.c1
    have y2 := hS2.qb.c2
    have r0 := hS2.qr.c0
    have r1 := hS2.qr.c1
    have r2 := hS2.qr.c2
    have r3 := hS2.qr.fr 0
    have r4 := hS2.qr.fr 1
    have r5 := hS2.qr.fr 2
    go_wp2_with fail
    go_region_held3 (fun w' => w'.cell? ⟨w.heap.size, 0, none⟩ = some (.bool s1) ∧ w'.cell? ⟨w.heap.size, 1, none⟩ = some (.slice A1 l1 e1) ∧ w'.cell? ⟨w.heap.size, 2, none⟩ = some (.slice A2 l2 e2) ∧ w'.cell? ⟨w.heap.size + 1, 0, none⟩ = some (.bool s2) ∧ w'.cell? ⟨w.heap.size + 1, 1, none⟩ = some (.slice A3 l3 e3) ∧ w'.cell? ⟨w.heap.size + 1, 2, none⟩ = some (.slice A4 l4 e4))
      (((try dsimp only); refine ⟨?_, ?_, ?_, ?_, ?_, ?_⟩ <;> first | with_reducible assumption | with_reducible exact kpx0 _ _ _ | with_reducible exact kpx1 _ _ _ | with_reducible exact kpx2 _ _ _ | with_reducible exact kpy0 _ _ _ | with_reducible exact kpy1 _ _ _ | with_reducible exact kpy2 _ _ _ | go_keep))
      (first
        | (go_at_call 76; refine Calls.mono (HU1.out _ (FSum.bl hS2.drew)) ?_; rintro e w3 ⟨vx, he, hvx, hba⟩; subst he; have hSa := FSum.below hS2.drew hba; have x0a := hSa.qa.c0; have x1a := hSa.qa.c1; have x2a := hSa.qa.c2; have y0a := hSa.qb.c0; have y1a := hSa.qb.c1; have y2a := hSa.qb.c2; have r0a := hSa.qr.c0; have r1a := hSa.qr.c1; have r2a := hSa.qr.c2; have r3a := hSa.qr.fr 0; have r4a := hSa.qr.fr 1; have r5a := hSa.qr.fr 2; clear HU1)
        | (go_at_call 76; refine Calls.mono (HU2.out _ (FSum.bl hSa)) ?_; rintro e w4 ⟨vy, he, hvy, hbb⟩; subst he; have hSb := FSum.below hSa hbb; have x0b := hSb.qa.c0; have x1b := hSb.qa.c1; have x2b := hSb.qa.c2; have y0b := hSb.qb.c0; have y1b := hSb.qb.c1; have y2b := hSb.qb.c2; have r0b := hSb.qr.c0; have r1b := hSb.qr.c1; have r2b := hSb.qr.c2; have r3b := hSb.qr.fr 0; have r4b := hSb.qr.fr 1; have r5b := hSb.qr.fr 2; clear HU2; have hvx4 := Lim.up hvx hbb)
        | (go_at_call 76; refine Calls.mono (HU3.out _ (FSum.bl hSb)) ?_; rintro e w5 ⟨vd, he, hvd, hbc⟩; subst he; have hSc := FSum.below hSb hbc; have x0c := hSc.qa.c0; have x1c := hSc.qa.c1; have x2c := hSc.qa.c2; have y0c := hSc.qb.c0; have y1c := hSc.qb.c1; have y2c := hSc.qb.c2; have r0c := hSc.qr.c0; have r1c := hSc.qr.c1; have r2c := hSc.qr.c2; have r3c := hSc.qr.fr 0; have r4c := hSc.qr.fr 1; have r5c := hSc.qr.fr 2; clear HU3; have hvx5 := Lim.up hvx4 hbc; have hvy5 := Lim.up hvy hbc))
    have HPL := Lib.hid (rplus_num (W := w5.drew) hvx5 hvy5 (by have := SX.out; omega) (by have := SY.out; omega))
    have HM1 := Lib.hid (fun (h : y ≤ x) => rminus_num (W := w5.drew) hvx5 hvy5 (by have := SX.out; omega) h)
    have HM2 := Lib.hid (fun (h : x ≤ y) => rminus_num (W := w5.drew) hvy5 hvx5 (by have := SY.out; omega) h)
    have HOR := Lib.hid (rorder_num hvx5 hvy5 (by have := SX.out; omega) (by have := SY.out; omega))
    have HLOW := Lib.hid (fun (W : World) (sg : Bool) (u : Value) (z : Nat) (r : Bool × Nat × Nat × Int) (hr : r = lowW sg z d) (hb : Below w5.heap.size w5 W) (hu : Num W W.heap.size u z) (hz : z ≤ x + y) => (show Calls Try.prog 75 #[.bool sg, u, vd] W (ResF W r) by
      rw [hr]
      have h1 := Nat.le_trans (dg_mono hz) (len_add x y)
      have h2 := SX.out
      have h3 := SY.out
      have h4 := SD.out
      exact rlow_num sg hu (Lim.up hvd hb) DZ.out (by omega) (by omega)))
    have HSC := Lib.hid hSc
    have HVD := Lib.hid hvd
    clear hvx hvx4 hvx5 hvy hvy5 hba hbb hbc hSa hSb hS2 hvd
    clear x0 x1 x2 y0 y1 y2 r0 r1 r2 r3 r4 r5 x0a x1a x2a y0a y1a y2a r0a r1a r2a r3a r4a r5a x0b x1b x2b y0b y1b y2b r0b r1b r2b r3b r4b r5b
    obtain ⟨rs, rm, rn, re⟩ := res
    by_cases hs : s1 = s2
    · have hr := HRES.out
      rw [if_pos hs] at hr
      have HR := Lib.hid hr
      have qb1 : (s1 == s2) = true := by rw [hs]; cases s2 <;> rfl
      clear hs hr HRES HM1 HM2 HOR
      go_wp2_with fail
      go_region_held3 (fun w' => w'.cell? ⟨w.heap.size, 0, none⟩ = some (.bool s1) ∧ w'.cell? ⟨w.heap.size + 1, 0, none⟩ = some (.bool s2))
        (((try dsimp only); refine ⟨?_, ?_⟩ <;> first | with_reducible assumption | with_reducible exact kpx0 _ _ _ | with_reducible exact kpy0 _ _ _ | go_keep))
        (first
          | (go_at_call 84; refine Calls.mono HPL.out ?_; rintro e w6 ⟨vs, he, hvs, hbs⟩; subst he; have hS6 := FSum.below HSC.out.drew hbs; have hb56 : Below w5.heap.size w5 w6 := (Below.refl _ w5).drew.trans hbs; have x0d := hS6.qa.c0; have y0d := hS6.qb.c0; have r0d := hS6.qr.c0; have r1d := hS6.qr.c1; have r2d := hS6.qr.c2; have r3d := hS6.qr.fr 0; have r4d := hS6.qr.fr 1; have r5d := hS6.qr.fr 2)
          | (go_at_call 75; refine Calls.mono (HLOW.out _ s1 _ (x + y) (rs, rm, rn, re) HR.out hb56 hvs (by omega)) ?_; clear HLOW; rintro e w7 ⟨Bn, ln, cn, Bd, ld, cd, he, hvn, hvd, hbl⟩; subst he; have hS7 := FSum.below hS6 hbl; have x0e := hS7.qa.c0; have y0e := hS7.qb.c0; have kpx0 := cell_other3 (k := w.heap.size + 1 + 1) x0e (by omega); have kpy0 := cell_other3 (k := w.heap.size + 1 + 1) y0e (by omega); have r0e := hS7.qr.c0; have r1e := hS7.qr.c1; have r2e := hS7.qr.c2; have r3e := hS7.qr.fr 0; have r4e := hS7.qr.fr 1; have r5e := hS7.qr.fr 2))
      go_wp2_with fail
      change bodyPost _ _ _ Exit.ret _ (wroteQ w7 (w.heap.size + 1 + 1) rs (.slice Bn ln cn) (.slice Bd ld cd))
      have g1 := hS7.qr.write rs (.slice Bn ln cn) (.slice Bd ld cd)
      have g2 : Num (wroteQ w7 (w.heap.size + 1 + 1) rs (.slice Bn ln cn) (.slice Bd ld cd)) w7.heap.size (.slice Bn ln cn) rm := Lim.wroteQ hvn hS7.qr rs _ _
      have g3 : Num (wroteQ w7 (w.heap.size + 1 + 1) rs (.slice Bn ln cn) (.slice Bd ld cd)) w7.heap.size (.slice Bd ld cd) rn := Lim.wroteQ hvd hS7.qr rs _ _
      have g4 := wroteQ_below hS7.bl (show w.heap.size ≤ w.heap.size + 1 + 1 by omega) rs (.slice Bn ln cn) (.slice Bd ld cd)
      have g5 : w7.heap.size ≤ (wroteQ w7 (w.heap.size + 1 + 1) rs (.slice Bn ln cn) (.slice Bd ld cd)).heap.size := by simp [wroteQ, World.setCell]
      generalize wroteQ w7 (w.heap.size + 1 + 1) rs (.slice Bn ln cn) (.slice Bd ld cd) = W9 at g1 g2 g3 g4 g5 ⊢
      have k0 := g1.c0
      have k1 := g1.c1
      have k2 := g1.c2
      refine bodyPost_ret (v := .tuple #[.agg #[.bool rs, .slice Bn ln cn, .slice Bd ld cd], .int .i64 re]) ?_ rfl ⟨_, _, rfl, Lim.more g2 g5, Lim.more g3 g5, g4⟩
      simp [results, Try.results87, k0, k1, k2, go_sem]
    · have hr := HRES.out
      rw [if_neg hs] at hr
      have qb1 : (s1 == s2) = false := by cases s1 <;> cases s2 <;> first | rfl | exact absurd rfl hs
      clear hs HRES HPL
      by_cases hlt : x < y
      · rw [if_pos hlt] at hr
        have HR := Lib.hid hr
        have hord := HOR.out
        rw [cmpI_lt hlt] at hord
        have HOR2 := Lib.hid hord
        have HQ := Lib.hid (HM2.out (Nat.le_of_lt hlt))
        clear hr hord HOR HM1 HM2
        go_wp2_with fail
        refine HOR2.out.mono ?_
        rintro e w5' ⟨he, hw⟩
        subst he
        subst hw
        go_wp2_with fail
        go_region_held3 (fun w' => w'.cell? ⟨w.heap.size, 0, none⟩ = some (.bool s1) ∧ w'.cell? ⟨w.heap.size + 1, 0, none⟩ = some (.bool s2))
          (((try dsimp only); refine ⟨?_, ?_⟩ <;> first | with_reducible assumption | with_reducible exact kpx0 _ _ _ | with_reducible exact kpy0 _ _ _ | go_keep))
          (first
            | (go_at_call 99; refine Calls.mono HQ.out ?_; rintro e w6 ⟨vs, he, hvs, hbs⟩; subst he; have hS6 := FSum.below HSC.out.drew hbs; have hb56 : Below w5.heap.size w5 w6 := (Below.refl _ w5).drew.trans hbs; have x0d := hS6.qa.c0; have y0d := hS6.qb.c0; have r0d := hS6.qr.c0; have r1d := hS6.qr.c1; have r2d := hS6.qr.c2; have r3d := hS6.qr.fr 0; have r4d := hS6.qr.fr 1; have r5d := hS6.qr.fr 2)
            | (go_at_call 75; refine Calls.mono (HLOW.out _ s2 _ (y - x) (rs, rm, rn, re) HR.out hb56 hvs (by omega)) ?_; clear HLOW; rintro e w7 ⟨Bn, ln, cn, Bd, ld, cd, he, hvn, hvd, hbl⟩; subst he; have hS7 := FSum.below hS6 hbl; have x0e := hS7.qa.c0; have y0e := hS7.qb.c0; have kpx0 := cell_other3 (k := w.heap.size + 1 + 1) x0e (by omega); have kpy0 := cell_other3 (k := w.heap.size + 1 + 1) y0e (by omega); have r0e := hS7.qr.c0; have r1e := hS7.qr.c1; have r2e := hS7.qr.c2; have r3e := hS7.qr.fr 0; have r4e := hS7.qr.fr 1; have r5e := hS7.qr.fr 2))
        go_wp2_with fail
        change bodyPost _ _ _ Exit.ret _ (wroteQ w7 (w.heap.size + 1 + 1) rs (.slice Bn ln cn) (.slice Bd ld cd))
        have g1 := hS7.qr.write rs (.slice Bn ln cn) (.slice Bd ld cd)
        have g2 : Num (wroteQ w7 (w.heap.size + 1 + 1) rs (.slice Bn ln cn) (.slice Bd ld cd)) w7.heap.size (.slice Bn ln cn) rm := Lim.wroteQ hvn hS7.qr rs _ _
        have g3 : Num (wroteQ w7 (w.heap.size + 1 + 1) rs (.slice Bn ln cn) (.slice Bd ld cd)) w7.heap.size (.slice Bd ld cd) rn := Lim.wroteQ hvd hS7.qr rs _ _
        have g4 := wroteQ_below hS7.bl (show w.heap.size ≤ w.heap.size + 1 + 1 by omega) rs (.slice Bn ln cn) (.slice Bd ld cd)
        have g5 : w7.heap.size ≤ (wroteQ w7 (w.heap.size + 1 + 1) rs (.slice Bn ln cn) (.slice Bd ld cd)).heap.size := by simp [wroteQ, World.setCell]
        generalize wroteQ w7 (w.heap.size + 1 + 1) rs (.slice Bn ln cn) (.slice Bd ld cd) = W9 at g1 g2 g3 g4 g5 ⊢
        have k0 := g1.c0
        have k1 := g1.c1
        have k2 := g1.c2
        refine bodyPost_ret (v := .tuple #[.agg #[.bool rs, .slice Bn ln cn, .slice Bd ld cd], .int .i64 re]) ?_ rfl ⟨_, _, rfl, Lim.more g2 g5, Lim.more g3 g5, g4⟩
        simp [results, Try.results87, k0, k1, k2, go_sem]
      · rw [if_neg hlt] at hr
        have HR := Lib.hid hr
        obtain ⟨cc, hc, hc0⟩ : ∃ c, cmpI x y = c ∧ 0 ≤ c := by
          unfold cmpI
          rw [if_neg hlt]
          split
          · exact ⟨0, rfl, by omega⟩
          · exact ⟨1, rfl, by omega⟩
        have hord := HOR.out
        rw [hc] at hord
        have HOR2 := Lib.hid hord
        have HQ := Lib.hid (HM1.out (by omega))
        have t1 : decide ((0 : Int) ≤ cc) = true := decide_eq_true hc0
        clear hr hord HOR HM1 HM2 hc
        go_wp2_with fail
        refine HOR2.out.mono ?_
        rintro e w5' ⟨he, hw⟩
        subst he
        subst hw
        go_wp2_with fail
        go_region_held3 (fun w' => w'.cell? ⟨w.heap.size, 0, none⟩ = some (.bool s1) ∧ w'.cell? ⟨w.heap.size + 1, 0, none⟩ = some (.bool s2))
          (((try dsimp only); refine ⟨?_, ?_⟩ <;> first | with_reducible assumption | with_reducible exact kpx0 _ _ _ | with_reducible exact kpy0 _ _ _ | go_keep))
          (first
            | (go_at_call 99; refine Calls.mono HQ.out ?_; rintro e w6 ⟨vs, he, hvs, hbs⟩; subst he; have hS6 := FSum.below HSC.out.drew hbs; have hb56 : Below w5.heap.size w5 w6 := (Below.refl _ w5).drew.trans hbs; have x0d := hS6.qa.c0; have y0d := hS6.qb.c0; have r0d := hS6.qr.c0; have r1d := hS6.qr.c1; have r2d := hS6.qr.c2; have r3d := hS6.qr.fr 0; have r4d := hS6.qr.fr 1; have r5d := hS6.qr.fr 2)
            | (go_at_call 75; refine Calls.mono (HLOW.out _ s1 _ (x - y) (rs, rm, rn, re) HR.out hb56 hvs (by omega)) ?_; clear HLOW; rintro e w7 ⟨Bn, ln, cn, Bd, ld, cd, he, hvn, hvd, hbl⟩; subst he; have hS7 := FSum.below hS6 hbl; have x0e := hS7.qa.c0; have y0e := hS7.qb.c0; have kpx0 := cell_other3 (k := w.heap.size + 1 + 1) x0e (by omega); have kpy0 := cell_other3 (k := w.heap.size + 1 + 1) y0e (by omega); have r0e := hS7.qr.c0; have r1e := hS7.qr.c1; have r2e := hS7.qr.c2; have r3e := hS7.qr.fr 0; have r4e := hS7.qr.fr 1; have r5e := hS7.qr.fr 2))
        go_wp2_with fail
        change bodyPost _ _ _ Exit.ret _ (wroteQ w7 (w.heap.size + 1 + 1) rs (.slice Bn ln cn) (.slice Bd ld cd))
        have g1 := hS7.qr.write rs (.slice Bn ln cn) (.slice Bd ld cd)
        have g2 : Num (wroteQ w7 (w.heap.size + 1 + 1) rs (.slice Bn ln cn) (.slice Bd ld cd)) w7.heap.size (.slice Bn ln cn) rm := Lim.wroteQ hvn hS7.qr rs _ _
        have g3 : Num (wroteQ w7 (w.heap.size + 1 + 1) rs (.slice Bn ln cn) (.slice Bd ld cd)) w7.heap.size (.slice Bd ld cd) rn := Lim.wroteQ hvd hS7.qr rs _ _
        have g4 := wroteQ_below hS7.bl (show w.heap.size ≤ w.heap.size + 1 + 1 by omega) rs (.slice Bn ln cn) (.slice Bd ld cd)
        have g5 : w7.heap.size ≤ (wroteQ w7 (w.heap.size + 1 + 1) rs (.slice Bn ln cn) (.slice Bd ld cd)).heap.size := by simp [wroteQ, World.setCell]
        generalize wroteQ w7 (w.heap.size + 1 + 1) rs (.slice Bn ln cn) (.slice Bd ld cd) = W9 at g1 g2 g3 g4 g5 ⊢
        have k0 := g1.c0
        have k1 := g1.c1
        have k2 := g1.c2
        refine bodyPost_ret (v := .tuple #[.agg #[.bool rs, .slice Bn ln cn, .slice Bd ld cd], .int .i64 re]) ?_ rfl ⟨_, _, rfl, Lim.more g2 g5, Lim.more g3 g5, g4⟩
        simp [results, Try.results87, k0, k1, k2, go_sem]
  · rw [if_neg h0]
    have q1 : (ec == 0) = false := by simp [h0]
    have q2 : (ec != 0) = true := by simp [h0]
    clear h0 HT1 HT2 HT3 HSZ
    go_enter Try.func87, Try.ntmps87
    go_wp2_with fail
    refine HEX.out.mono ?_
    rintro e w2 ⟨he, hS2⟩
    subst he
    have x0 := hS2.qa.c0
    have x1 := hS2.qa.c1
    have x2 := hS2.qa.c2
    have y0 := hS2.qb.c0
    have y1 := hS2.qb.c1
    have y2 := hS2.qb.c2
    have r0 := hS2.qr.c0
    have r1 := hS2.qr.c1
    have r2 := hS2.qr.c2
    have r3 := hS2.qr.fr 0
    have r4 := hS2.qr.fr 1
    have r5 := hS2.qr.fr 2
    go_wp2_with fail
    change bodyPost _ _ _ Exit.ret _ (wroteQ w2 (w.heap.size + 1 + 1) false (.slice none 0 0) (.slice none 0 0))
    have g1 := hS2.qr.write false (.slice none 0 0) (.slice none 0 0)
    have g4 := wroteQ_below hS2.bl (show w.heap.size ≤ w.heap.size + 1 + 1 by omega) false (.slice none 0 0) (.slice none 0 0)
    generalize wroteQ w2 (w.heap.size + 1 + 1) false (.slice none 0 0) (.slice none 0 0) = W9 at g1 g4 ⊢
    have k0 := g1.c0
    have k1 := g1.c1
    have k2 := g1.c2
    refine bodyPost_ret (v := .tuple #[.agg #[.bool false, .slice none 0 0, .slice none 0 0], .int .i64 ec]) ?_ rfl ⟨_, _, rfl, Num.zero _ _, Num.zero _ _, g4⟩
    simp [results, Try.results87, k0, k1, k2, go_sem]
end Go.Proofs.Ytmmgbofhbnflkaa
namespace Go.Proofs.Ytmmgbofhbnflkaa
open Go.RowKit

/-! The reference's difference of fractions. -/
set_option maxRecDepth 100000 in
set_option maxHeartbeats 1000000 in
theorem rturned_any (neg : Bool) (A B : Option Addr) (l1 e1 l2 e2 : Nat) (w : World) :
    Calls Try.prog 100 #[.agg #[.bool neg, .slice A l1 e1, .slice B l2 e2]] w fun e w' => e = .returned (.agg #[.bool (!neg && decide (0 < l1)), .slice A l1 e1, .slice B l2 e2]) ∧ Below w.heap.size w w' := by
  have hb : ∀ b, Below w.heap.size w ((w.alloc (.cells #[.bool neg, .slice A l1 e1, .slice B l2 e2] 61)).alloc (.cells #[.bool b, .slice A l1 e1, .slice B l2 e2] 61)) := fun b => ((Below.refl _ _).alloc (Nat.le_refl _) _).alloc (by simp) _
  have HB := Lib.hid hb
  clear hb
  cases neg
  · by_cases h : 0 < l1
    · have h1 : (0 : Int) < (l1 : Int) := by omega
      rw [decide_eq_true h]
      have HL := Lib.hid h
      clear h
      go_enter Try.func100, Try.ntmps100
      go_wp2_with fail
      exact bodyPost_ret (v := .agg #[.bool true, .slice A l1 e1, .slice B l2 e2]) (by have h := HL.out; simp [h, results, Try.results100, go_sem]) rfl ⟨rfl, HB.out _⟩
    · have h1 : ¬ (0 : Int) < (l1 : Int) := by omega
      rw [decide_eq_false h]
      have HL := Lib.hid (show l1 = 0 by omega)
      clear h
      go_enter Try.func100, Try.ntmps100
      go_wp2_with fail
      exact bodyPost_ret (v := .agg #[.bool false, .slice A l1 e1, .slice B l2 e2]) (by have h := HL.out; simp [h, results, Try.results100, go_sem]) rfl ⟨rfl, HB.out _⟩
  · go_enter Try.func100, Try.ntmps100
    go_wp2_with fail
    exact bodyPost_ret (v := .agg #[.bool false, .slice A l1 e1, .slice B l2 e2]) (by simp [results, Try.results100, go_sem]) rfl ⟨rfl, HB.out _⟩
def qsubW (f1 f2 : Fr) : Bool × Nat × Nat × Int := if examQW [f1, f2] = 0 then fsumW f1.neg (val f1.num) (val f1.den) (!f2.neg) (val f2.num) (val f2.den) else (false, 0, 0, examQW [f1, f2])
theorem fsumW_zero (a b c : Bool) (m1 n1 n2 : Nat) : fsumW a m1 n1 b 0 n2 = fsumW a m1 n1 c 0 n2 := by
  have h : ∀ b, fsumW a m1 n1 b 0 n2 = lowW a (m1 * n2) (n1 * n2) := by
    intro b
    unfold fsumW
    rw [Nat.zero_mul, Nat.add_zero, Nat.sub_zero, if_neg (Nat.not_lt_zero _)]
    split <;> rfl
  rw [h, h]
/-- The fraction with the other sign. -/
def Fr.turned (f : Fr) : Fr := ⟨!f.neg && decide (0 < f.num.length), f.num, f.den⟩
theorem turned_proper {f : Fr} (h : f.proper = true) (hz : f.num.length = 0 ↔ val f.num = 0) : f.turned.proper = true ∧ f.turned.ex = f.ex := by
  refine ⟨?_, rfl⟩
  have hz' : (decide (0 < f.num.length)) = !decide (val f.num = 0) := by
    by_cases h0 : val f.num = 0
    · have := hz.2 h0; simp [h0, this]
    · have : f.num.length ≠ 0 := fun e => h0 (hz.1 e)
      have : 0 < f.num.length := by omega
      simp [h0, this]
  unfold Fr.turned Fr.proper properW at *
  simp only [hz']
  cases f.neg <;> cases h0 : decide (val f.num = 0) <;> simp [h0] at h ⊢ <;> first | exact h | exact ⟨h.1.1, h.2⟩
theorem qsub_eq {f1 f2 : Fr} (h : examQW [f1, f2] = 0) (hz : f2.num.length = 0 ↔ val f2.num = 0) : qaddW f1 f2.turned = qsubW f1 f2 := by
  have p1 := examQW_ok h f1 (by simp)
  have p2 := examQW_ok h f2 (by simp)
  obtain ⟨t1, t2⟩ := turned_proper p2 hz
  have h' : examQW [f1, f2.turned] = 0 := by
    have h3 : ¬ f1.ex = 3 := fun e => by rw [examQW_long (k := 0) rfl e] at h; cases h
    have h4 : ¬ f2.ex = 3 := fun e => by rw [examQW_long (k := 1) rfl e] at h; cases h
    unfold examQW
    simp [h3, t2, h4, p1, t1]
  unfold qaddW qsubW
  rw [if_pos h, if_pos h']
  show fsumW f1.neg (val f1.num) (val f1.den) (!f2.neg && decide (0 < f2.num.length)) (val f2.num) (val f2.den) = _
  by_cases h0 : val f2.num = 0
  · rw [h0]; exact fsumW_zero _ _ _ _ _ _
  · have : f2.num.length ≠ 0 := fun e => h0 (hz.1 e)
    rw [decide_eq_true (show 0 < f2.num.length by omega), Bool.and_true]

set_option maxRecDepth 100000 in
set_option maxHeartbeats 4000000 in
theorem rQSub_any (f1 f2 : Fr) (n1 d1 n2 d2 : Value) (w : World) (h1 : FrV w f1 n1 d1) (h2 : FrV w f2 n2 d2) :
    Calls Try.prog 88 #[.agg #[.bool f1.neg, n1, d1], .agg #[.bool f2.neg, n2, d2]] w (ResW w (qsubW f1 f2)) := by
  have hF := fsum_start w f1.neg f2.neg n1 d1 n2 d2
  have hex := rexW3 f1 f2 n1 d1 n2 d2 w h1 h2
  unfold W3 at hF hex
  have hqa : examQW [f1, f2] = 0 → ∀ W', Below w.heap.size w W' → Calls Try.prog 87 #[.agg #[.bool f1.neg, n1, d1], .agg #[.bool (!f2.neg && decide (0 < f2.num.length)), n2, d2]] W' (ResF W' (qsubW f1 f2)) := by
    intro h0 W' hW'
    have hz := lenz (h2.1.num (properW_ok (examQW_ok h0 f2 (by simp))).1 (by simp)).2.2
    rw [← qsub_eq h0 hz]
    exact (rQAdd_any f1 f2.turned n1 d1 n2 d2 W' (h1.up hW') (h2.up hW')).mono fun e w' h => h.forms
  have hbad : ¬ examQW [f1, f2] = 0 → qsubW f1 f2 = (false, 0, 0, examQW [f1, f2]) := fun h => by unfold qsubW; rw [if_neg h]
  have c0 := hF.qa.c0
  have c1 := hF.qa.c1
  have c2 := hF.qa.c2
  have d0 := hF.qb.c0
  have d1' := hF.qb.c1
  have d2' := hF.qb.c2
  have fn1 := h1.1.1.form
  have fd1 := h1.2.1.form
  have fn2 := h2.1.1.form
  have fd2 := h2.2.1.form
  obtain ⟨A1, e1, rfl, -⟩ := fn1
  obtain ⟨A2, e2, rfl, -⟩ := fd1
  obtain ⟨A3, e3, rfl, -⟩ := fn2
  obtain ⟨A4, e4, rfl, -⟩ := fd2
  generalize qsubW f1 f2 = fr at *
  generalize examQW [f1, f2] = ec at *
  have HEX := Lib.hid hex
  have HQA := Lib.hid hqa
  clear hex hqa hF h1 h2
  have htu := fun W => rturned_any f2.neg A3 A4 f2.num.length e3 f2.den.length e4 W
  obtain ⟨tn, htn⟩ : ∃ tn, tn = (!f2.neg && decide (0 < f2.num.length)) := ⟨_, rfl⟩
  rw [← htn] at htu HQA
  clear htn
  have HTU := Lib.hid htu
  clear htu
  generalize f1.neg = s1 at *
  generalize f2.neg = s2 at *
  generalize f1.num.length = l1 at *
  generalize f1.den.length = l2 at *
  generalize f2.num.length = l3 at *
  generalize f2.den.length = l4 at *
  by_cases h0 : ec = 0
  · subst h0
    have HU := Lib.hid (HQA.out rfl)
    clear HQA hbad
    obtain ⟨rs, rm, rn, re⟩ := fr
    go_enter Try.func88, Try.ntmps88
    go_wp2_with fail
    refine HEX.out.mono ?_
    rintro e w2 ⟨he, hS2⟩
    subst he
    have x0 := hS2.qa.c0
    have x1 := hS2.qa.c1
    have x2 := hS2.qa.c2
    have y0 := hS2.qb.c0
    have y1 := hS2.qb.c1
    have y2 := hS2.qb.c2
    have r0 := hS2.qr.c0
    have r1 := hS2.qr.c1
    have r2 := hS2.qr.c2
    have r3 := hS2.qr.fr 0
    have r4 := hS2.qr.fr 1
    have r5 := hS2.qr.fr 2
    go_wp2_with fail
    go_region_held3 (fun w' => w'.cell? ⟨w.heap.size, 0, none⟩ = some (.bool s1) ∧ w'.cell? ⟨w.heap.size, 1, none⟩ = some (.slice A1 l1 e1) ∧ w'.cell? ⟨w.heap.size, 2, none⟩ = some (.slice A2 l2 e2) ∧ w'.cell? ⟨w.heap.size + 1, 0, none⟩ = some (.bool s2) ∧ w'.cell? ⟨w.heap.size + 1, 1, none⟩ = some (.slice A3 l3 e3) ∧ w'.cell? ⟨w.heap.size + 1, 2, none⟩ = some (.slice A4 l4 e4))
      (((try dsimp only); refine ⟨?_, ?_, ?_, ?_, ?_, ?_⟩ <;> first | with_reducible assumption | with_reducible exact kpx0 _ _ _ | with_reducible exact kpx1 _ _ _ | with_reducible exact kpx2 _ _ _ | with_reducible exact kpy0 _ _ _ | with_reducible exact kpy1 _ _ _ | with_reducible exact kpy2 _ _ _ | go_keep))
      (first
        | (go_at_call 100; refine Calls.mono (HTU.out _) ?_; rintro e w3 ⟨he, hba⟩; subst he; have hSa := FSum.below hS2.drew hba; have x0a := hSa.qa.c0; have x1a := hSa.qa.c1; have x2a := hSa.qa.c2; have y0a := hSa.qb.c0; have y1a := hSa.qb.c1; have y2a := hSa.qb.c2; have r0a := hSa.qr.c0; have r1a := hSa.qr.c1; have r2a := hSa.qr.c2; have r3a := hSa.qr.fr 0; have r4a := hSa.qr.fr 1; have r5a := hSa.qr.fr 2; clear HTU)
        | (go_at_call 87; refine Calls.mono (HU.out _ (FSum.bl hSa)) ?_; rintro e w4 ⟨Bn, ln, cn, Bd, ld, cd, he, hvn, hvd, hbb⟩; subst he; have hSb := FSum.below hSa hbb; have x0b := hSb.qa.c0; have x1b := hSb.qa.c1; have x2b := hSb.qa.c2; have y0b := hSb.qb.c0; have y1b := hSb.qb.c1; have y2b := hSb.qb.c2; have r0b := hSb.qr.c0; have r1b := hSb.qr.c1; have r2b := hSb.qr.c2; have r3b := hSb.qr.fr 0; have r4b := hSb.qr.fr 1; have r5b := hSb.qr.fr 2; clear HU; have kpx0 := cell_other3 (k := w.heap.size + 1 + 1) x0b (by omega); have kpx1 := cell_other3 (k := w.heap.size + 1 + 1) x1b (by omega); have kpx2 := cell_other3 (k := w.heap.size + 1 + 1) x2b (by omega); have kpy0 := cell_other3 (k := w.heap.size + 1 + 1) y0b (by omega); have kpy1 := cell_other3 (k := w.heap.size + 1 + 1) y1b (by omega); have kpy2 := cell_other3 (k := w.heap.size + 1 + 1) y2b (by omega)))
    go_wp2_with fail
    change bodyPost _ _ _ Exit.ret _ (wroteQ w4 (w.heap.size + 1 + 1) rs (.slice Bn ln cn) (.slice Bd ld cd))
    have g1 := hSb.qr.write rs (.slice Bn ln cn) (.slice Bd ld cd)
    have g2 : Num (wroteQ w4 (w.heap.size + 1 + 1) rs (.slice Bn ln cn) (.slice Bd ld cd)) w4.heap.size (.slice Bn ln cn) rm := Lim.wroteQ hvn hSb.qr rs _ _
    have g3 : Num (wroteQ w4 (w.heap.size + 1 + 1) rs (.slice Bn ln cn) (.slice Bd ld cd)) w4.heap.size (.slice Bd ld cd) rn := Lim.wroteQ hvd hSb.qr rs _ _
    have g4 := wroteQ_below hSb.bl (show w.heap.size ≤ w.heap.size + 1 + 1 by omega) rs (.slice Bn ln cn) (.slice Bd ld cd)
    have g5 : w4.heap.size ≤ (wroteQ w4 (w.heap.size + 1 + 1) rs (.slice Bn ln cn) (.slice Bd ld cd)).heap.size := by simp [wroteQ, World.setCell]
    generalize wroteQ w4 (w.heap.size + 1 + 1) rs (.slice Bn ln cn) (.slice Bd ld cd) = W9 at g1 g2 g3 g4 g5 ⊢
    have k0 := g1.c0
    have k1 := g1.c1
    have k2 := g1.c2
    refine bodyPost_ret (v := .tuple #[.agg #[.bool rs, .slice Bn ln cn, .slice Bd ld cd], .int .i64 re]) ?_ rfl ⟨_, _, rfl, Lim.more g2 g5, Lim.more g3 g5, g4⟩
    simp [results, Try.results88, k0, k1, k2, go_sem]
  · rw [hbad h0]
    have q1 : (ec == 0) = false := by simp [h0]
    have q2 : (ec != 0) = true := by simp [h0]
    clear h0 HQA HTU hbad
    go_enter Try.func88, Try.ntmps88
    go_wp2_with fail
    refine HEX.out.mono ?_
    rintro e w2 ⟨he, hS2⟩
    subst he
    have x0 := hS2.qa.c0
    have x1 := hS2.qa.c1
    have x2 := hS2.qa.c2
    have y0 := hS2.qb.c0
    have y1 := hS2.qb.c1
    have y2 := hS2.qb.c2
    have r0 := hS2.qr.c0
    have r1 := hS2.qr.c1
    have r2 := hS2.qr.c2
    have r3 := hS2.qr.fr 0
    have r4 := hS2.qr.fr 1
    have r5 := hS2.qr.fr 2
    go_wp2_with fail
    change bodyPost _ _ _ Exit.ret _ (wroteQ w2 (w.heap.size + 1 + 1) false (.slice none 0 0) (.slice none 0 0))
    have g1 := hS2.qr.write false (.slice none 0 0) (.slice none 0 0)
    have g4 := wroteQ_below hS2.bl (show w.heap.size ≤ w.heap.size + 1 + 1 by omega) false (.slice none 0 0) (.slice none 0 0)
    generalize wroteQ w2 (w.heap.size + 1 + 1) false (.slice none 0 0) (.slice none 0 0) = W9 at g1 g4 ⊢
    have k0 := g1.c0
    have k1 := g1.c1
    have k2 := g1.c2
    refine bodyPost_ret (v := .tuple #[.agg #[.bool false, .slice none 0 0, .slice none 0 0], .int .i64 ec]) ?_ rfl ⟨_, _, rfl, Num.zero _ _, Num.zero _ _, g4⟩
    simp [results, Try.results88, k0, k1, k2, go_sem]
end Go.Proofs.Ytmmgbofhbnflkaa
namespace Go.Proofs.Ytmmgbofhbnflkaa
open Go.RowKit

/-! The reference's comparison of fractions. -/
structure FS2 (w : World) (na : Bool) (van vad : Value) (nb : Bool) (vbn vbd : Value) (W : World) : Prop where
  qa : QB W w.heap.size na van vad
  qb : QB W (w.heap.size + 1) nb vbn vbd
  bl : Below w.heap.size w W
theorem FS2.drew {w W : World} {na nb : Bool} {van vad vbn vbd : Value} (h : FS2 w na van vad nb vbn vbd W) : FS2 w na van vad nb vbn vbd W.drew := ⟨h.qa, h.qb, h.bl.drew⟩
theorem FS2.below {w W W' : World} {na nb : Bool} {van vad vbn vbd : Value} (h : FS2 w na van vad nb vbn vbd W) (hb : Below W.heap.size W W') : FS2 w na van vad nb vbn vbd W' :=
  ⟨h.qa.below hb h.qa.lt, h.qb.below hb h.qb.lt, h.bl.trans (hb.mono h.bl.size)⟩
def W2 (w : World) (a b : Bool) (n1 d1 n2 d2 : Value) : World := (w.alloc (.cells #[.bool a, n1, d1] 61)).alloc (.cells #[.bool b, n2, d2] 61)
theorem fs2_start (w : World) (a b : Bool) (n1 d1 n2 d2 : Value) : FS2 w a n1 d1 b n2 d2 (W2 w a b n1 d1 n2 d2) := by
  have b1 : Below w.heap.size w (w.alloc (.cells #[.bool a, n1, d1] 61)) := (Below.refl _ w).alloc (Nat.le_refl _) _
  have q1 := QB.new w a n1 d1
  have q2 := QB.new (w.alloc (.cells #[.bool a, n1, d1] 61)) b n2 d2
  have bA := fun (W : World) (o : Obj) => (Below.refl W.heap.size W).alloc (Nat.le_refl _) o
  rw [World.size_alloc] at q2
  exact ⟨q1.below (bA _ _) q1.lt, q2, b1.alloc (by simp) _⟩
theorem W2_size (w : World) (a b : Bool) (n1 d1 n2 d2 : Value) : (W2 w a b n1 d1 n2 d2).heap.size = w.heap.size + 1 + 1 := by simp [W2]
theorem rexW2 (f1 f2 : Fr) (n1 d1 n2 d2 : Value) (w : World) (h1 : FrV w f1 n1 d1) (h2 : FrV w f2 n2 d2) :
    Calls Try.prog 74 #[.slice (some ⟨w.heap.size + 1 + 1, 0, none⟩) 2 2] ((W2 w f1.neg f2.neg n1 d1 n2 d2).alloc (.cells #[.bool f1.neg, n1, d1, .bool f2.neg, n2, d2] 61)) fun e w' => e = .returned (.int .i64 (examQW [f1, f2])) ∧ FS2 w f1.neg n1 d1 f2.neg n2 d2 w' := by
  have hF := fs2_start w f1.neg f2.neg n1 d1 n2 d2
  have hex := rexQ2 f1 f2 n1 d1 n2 d2 (W2 w f1.neg f2.neg n1 d1 n2 d2) (h1.up hF.bl) (h2.up hF.bl)
  have hsz := W2_size w f1.neg f2.neg n1 d1 n2 d2
  generalize W2 w f1.neg f2.neg n1 d1 n2 d2 = W at *
  have hbA : Below W.heap.size W (W.alloc (.cells #[.bool f1.neg, n1, d1, .bool f2.neg, n2, d2] 61)) := (Below.refl _ _).alloc (Nat.le_refl _) _
  have hSA := hF.below hbA
  have hszA : (W.alloc (.cells #[.bool f1.neg, n1, d1, .bool f2.neg, n2, d2] 61)).heap.size = w.heap.size + 1 + 1 + 1 := by rw [World.size_alloc, hsz]
  rw [hsz] at hex
  exact hex.mono (fun e w' h => ⟨h.1, hSA.below (by rw [hszA]; exact h.2)⟩)
def signW (s1 s2 : Bool) (c : Int) : Int := if s1 then (if s2 then -c else -1) else (if s2 then 1 else c)
def qcmpW (f1 f2 : Fr) : Int × Int := if examQW [f1, f2] = 0 then (signW f1.neg f2.neg (cmpI (val f1.num * val f2.den) (val f2.num * val f1.den)), 0) else (0, examQW [f1, f2])
theorem cmpI_bd (m n : Nat) : -1 ≤ cmpI m n ∧ cmpI m n ≤ 1 := by unfold cmpI; repeat' split
                                                                 all_goals omega

set_option maxRecDepth 100000 in
set_option maxHeartbeats 4000000 in
theorem rQCmp_any (f1 f2 : Fr) (n1 d1 n2 d2 : Value) (w : World) (h1 : FrV w f1 n1 d1) (h2 : FrV w f2 n2 d2) :
    Calls Try.prog 77 #[.agg #[.bool f1.neg, n1, d1], .agg #[.bool f2.neg, n2, d2]] w fun e w' => e = .returned (.tuple #[.int .i64 (qcmpW f1 f2).1, .int .i64 (qcmpW f1 f2).2]) ∧ Below w.heap.size w w' := by
  have hF := fs2_start w f1.neg f2.neg n1 d1 n2 d2
  have hex := rexW2 f1 f2 n1 d1 n2 d2 w h1 h2
  unfold W2 at hF hex
  have hok : examQW [f1, f2] = 0 → ∀ W', Below w.heap.size w W' → _ := fun h0 W' hW' => (⟨(h1.up hW').ok (examQW_ok h0 f1 (by simp)), (h2.up hW').ok (examQW_ok h0 f2 (by simp))⟩ : _ ∧ _)
  have ht1 : examQW [f1, f2] = 0 → ∀ W', Below w.heap.size w W' → Calls Try.prog 76 #[n1, d2] W' (RNum0 W' (val f1.num * val f2.den)) := by
    intro h0 W' hW'
    obtain ⟨⟨a1, a2, a3, a4, a5⟩, ⟨b1, b2, b3, b4, b5⟩⟩ := hok h0 W' hW'
    exact rtimes_num a1 b2 (by omega) (by omega)
  have ht2 : examQW [f1, f2] = 0 → ∀ W', Below w.heap.size w W' → Calls Try.prog 76 #[n2, d1] W' (RNum0 W' (val f2.num * val f1.den)) := by
    intro h0 W' hW'
    obtain ⟨⟨a1, a2, a3, a4, a5⟩, ⟨b1, b2, b3, b4, b5⟩⟩ := hok h0 W' hW'
    exact rtimes_num b1 a2 (by omega) (by omega)
  have hsz : examQW [f1, f2] = 0 → (dg (val f1.num * val f2.den)).length ≤ 10000 ∧ (dg (val f2.num * val f1.den)).length ≤ 10000 := by
    intro h0
    obtain ⟨⟨a1, a2, a3, a4, a5⟩, ⟨b1, b2, b3, b4, b5⟩⟩ := hok h0 w (Below.refl _ _)
    have m1 := len_mul (val f1.num) (val f2.den)
    have m2 := len_mul (val f2.num) (val f1.den)
    exact ⟨by omega, by omega⟩
  have c0 := hF.qa.c0
  have c1 := hF.qa.c1
  have c2 := hF.qa.c2
  have d0 := hF.qb.c0
  have d1' := hF.qb.c1
  have d2' := hF.qb.c2
  have fn1 := h1.1.1.form
  have fd1 := h1.2.1.form
  have fn2 := h2.1.1.form
  have fd2 := h2.2.1.form
  obtain ⟨A1, e1, rfl, -⟩ := fn1
  obtain ⟨A2, e2, rfl, -⟩ := fd1
  obtain ⟨A3, e3, rfl, -⟩ := fn2
  obtain ⟨A4, e4, rfl, -⟩ := fd2
  unfold qcmpW
  generalize val f1.num * val f2.den = x at *
  generalize val f2.num * val f1.den = y at *
  generalize examQW [f1, f2] = ec at *
  have HEX := Lib.hid hex
  have HT1 := Lib.hid ht1
  have HT2 := Lib.hid ht2
  have HSZ := Lib.hid hsz
  clear hex ht1 ht2 hsz hok hF h1 h2
  generalize f1.neg = s1 at *
  generalize f2.neg = s2 at *
  generalize f1.num.length = l1 at *
  generalize f1.den.length = l2 at *
  generalize f2.num.length = l3 at *
  generalize f2.den.length = l4 at *
  by_cases h0 : ec = 0
  · subst h0
    rw [if_pos rfl]
    have HU1 := Lib.hid (HT1.out rfl)
    have HU2 := Lib.hid (HT2.out rfl)
    obtain ⟨sx, sy⟩ := HSZ.out rfl
    have SX := Lib.hid sx
    have SY := Lib.hid sy
    have hcb := cmpI_bd x y
    obtain ⟨c, hc⟩ : ∃ c, c = cmpI x y := ⟨_, rfl⟩
    rw [← hc] at hcb ⊢
    obtain ⟨hc1, hc2⟩ := hcb
    have HC := Lib.hid hc
    clear HT1 HT2 HSZ sx sy hc
    go_enter Try.func77, Try.ntmps77
    go_wp2_with fail
    refine HEX.out.mono ?_
    rintro e w2 ⟨he, hS2⟩
    subst he
    have x0 := hS2.qa.c0
    have x1 := hS2.qa.c1
    have x2 := hS2.qa.c2
    have y0 := hS2.qb.c0
    have y1 := hS2.qb.c1
    have y2 := hS2.qb.c2
    go_wp2_with fail
    go_region_held3 (fun w' => w'.cell? ⟨w.heap.size, 0, none⟩ = some (.bool s1) ∧ w'.cell? ⟨w.heap.size, 1, none⟩ = some (.slice A1 l1 e1) ∧ w'.cell? ⟨w.heap.size, 2, none⟩ = some (.slice A2 l2 e2) ∧ w'.cell? ⟨w.heap.size + 1, 0, none⟩ = some (.bool s2) ∧ w'.cell? ⟨w.heap.size + 1, 1, none⟩ = some (.slice A3 l3 e3) ∧ w'.cell? ⟨w.heap.size + 1, 2, none⟩ = some (.slice A4 l4 e4))
      (((try dsimp only); refine ⟨?_, ?_, ?_, ?_, ?_, ?_⟩ <;> first | with_reducible assumption | with_reducible exact kpx0 _ _ _ | with_reducible exact kpx1 _ _ _ | with_reducible exact kpx2 _ _ _ | with_reducible exact kpy0 _ _ _ | with_reducible exact kpy1 _ _ _ | with_reducible exact kpy2 _ _ _ | go_keep))
      (first
        | (go_at_call 76; refine Calls.mono (HU1.out _ (FS2.bl hS2.drew)) ?_; rintro e w3 ⟨vx, he, hvx, hba⟩; subst he; have hSa := FS2.below hS2.drew hba; have x0a := hSa.qa.c0; have x1a := hSa.qa.c1; have x2a := hSa.qa.c2; have y0a := hSa.qb.c0; have y1a := hSa.qb.c1; have y2a := hSa.qb.c2; clear HU1)
        | (go_at_call 76; refine Calls.mono (HU2.out _ (FS2.bl hSa)) ?_; rintro e w4 ⟨vy, he, hvy, hbb⟩; subst he; have hSb := FS2.below hSa hbb; have x0b := hSb.qa.c0; have x1b := hSb.qa.c1; have x2b := hSb.qa.c2; have y0b := hSb.qb.c0; have y1b := hSb.qb.c1; have y2b := hSb.qb.c2; clear HU2; have hvx4 := Lim.up hvx hbb; have HOR := Lib.hid (rorder_num hvx4 hvy (by have := SX.out; omega) (by have := SY.out; omega)))
        | (go_at_call 63; refine Calls.mono (HOR.out) ?_; rw [← HC.out]; rintro e w5 ⟨he, rfl⟩; subst he; clear HOR))
    have HFIN := Lib.hid hSb.bl
    clear hvx hvx4 hvy hba hbb
    cases s1
    all_goals cases s2
    all_goals
      go_wp2_with fail
      go_ret2
      exact ⟨rfl, HFIN.out⟩
  · rw [if_neg h0]
    have q1 : (ec == 0) = false := by simp [h0]
    have q2 : (ec != 0) = true := by simp [h0]
    clear h0 HT1 HT2 HSZ
    go_enter Try.func77, Try.ntmps77
    go_wp2_with fail
    refine HEX.out.mono ?_
    rintro e w2 ⟨he, hS2⟩
    subst he
    have x0 := hS2.qa.c0
    have x1 := hS2.qa.c1
    have x2 := hS2.qa.c2
    have y0 := hS2.qb.c0
    have y1 := hS2.qb.c1
    have y2 := hS2.qb.c2
    go_wp2_with fail
    go_ret2
    exact ⟨rfl, hS2.bl⟩
end Go.Proofs.Ytmmgbofhbnflkaa
namespace Go.Proofs.Ytmmgbofhbnflkaa
open Go.RowKit

/-! The reference's floor of a fraction. -/
theorem rexQ1 (f1 : Fr) (n1 d1 : Value) (w : World) (h1 : FrV w f1 n1 d1) :
    Calls Try.prog 74 #[.slice (some ⟨w.heap.size, 0, none⟩) 1 1] (w.alloc (.cells #[.bool f1.neg, n1, d1] 61)) fun e w' => e = .returned (.int .i64 (examQW [f1])) ∧ Below (w.heap.size + 1) (w.alloc (.cells #[.bool f1.neg, n1, d1] 61)) w' := by
  obtain ⟨W, hW⟩ : ∃ W, W = w.alloc (.cells #[.bool f1.neg, n1, d1] 61) := ⟨_, rfl⟩
  have hb : Below w.heap.size w W := by rw [hW]; exact (Below.refl _ _).alloc (Nat.le_refl _) _
  have hrow : W.heap[w.heap.size]? = some (.cells #[.bool f1.neg, n1, d1] 61 (0, 0)) := by rw [hW]; exact World.alloc_heap_new w _
  have hsz : W.heap.size = w.heap.size + 1 := by rw [hW]; simp
  rw [← hW]
  have g1 := h1.up hb
  obtain ⟨A1, a1, rfl, -⟩ := g1.1.1.form
  obtain ⟨A2, a2, rfl, -⟩ := g1.2.1.form
  have h := rbadq_any w.heap.size 1 [f1] W (by omega) (by simp) (fun k f hk => by
    match k, hk with
    | 0, hk =>
      simp at hk; subst hk
      exact ⟨_, _, _, _, _, _, by rw [Go.Joins.cell_of_block hrow]; rfl, by rw [Go.Joins.cell_of_block hrow]; rfl, by rw [Go.Joins.cell_of_block hrow]; rfl, g1.1, g1.2⟩)
  rw [hsz] at h
  exact h

set_option maxRecDepth 100000 in
set_option maxHeartbeats 4000000 in
theorem rQFloor_any (f : Fr) (vn vd : Value) (w : World) (h1 : FrV w f vn vd) :
    Calls Try.prog 96 #[.agg #[.bool f.neg, vn, vd]] w (ResFl w (qfloorW f)) := by
  have hq := QB.new w f.neg vn vd
  obtain ⟨W, hW⟩ : ∃ W, W = w.alloc (.cells #[.bool f.neg, vn, vd] 61) := ⟨_, rfl⟩
  rw [← hW] at hq
  have hb0 : Below w.heap.size w W := by rw [hW]; exact (Below.refl _ _).alloc (Nat.le_refl _) _
  have hsz : W.heap.size = w.heap.size + 1 := by rw [hW]; simp
  have hex := rexQ1 f vn vd W (h1.up hb0)
  have hbA : Below W.heap.size W (W.alloc (.cells #[.bool f.neg, vn, vd] 61)) := (Below.refl _ _).alloc (Nat.le_refl _) _
  replace hex := hex.mono (fun e w' (h : e = .returned (.int .i64 (examQW [f])) ∧ _) => (⟨h.1, hq.below (hbA.trans (h.2.mono (Nat.le_succ _))) hq.lt, hb0.trans ((hbA.trans (h.2.mono (Nat.le_succ _))).mono hb0.size)⟩ : e = .returned (.int .i64 (examQW [f])) ∧ QB w' w.heap.size f.neg vn vd ∧ Below w.heap.size w w'))
  rw [hsz] at hex
  have c0 := hq.c0
  have c1 := hq.c1
  have c2 := hq.c2
  have hdv : examQW [f] = 0 → ∀ W', Below w.heap.size w W' → Calls Try.prog 95 #[vn, vd] W' (RDiv W' (val f.num) (val f.den)) := by
    intro h0 W' hW'
    obtain ⟨a1, a2, a3, a4, a5⟩ := (h1.up hW').ok (examQW_ok h0 f (by simp))
    exact rdivide_any vn vd _ _ W' a1 a2 (by omega) (by omega) (by omega)
  have hlen : examQW [f] = 0 → (dg (val f.num / val f.den)).length ≤ 512 := by
    intro h0
    obtain ⟨a1, a2, a3, a4, a5⟩ := h1.ok (examQW_ok h0 f (by simp))
    exact Nat.le_trans (dg_mono (Nat.div_le_self _ _)) a4
  have fn1 := h1.1.1.form
  have fd1 := h1.2.1.form
  obtain ⟨A1, e1, rfl, -⟩ := fn1
  obtain ⟨A2, e2, rfl, -⟩ := fd1
  unfold qfloorW
  generalize hm : val f.num = m at *
  generalize hn : val f.den = n at *
  generalize examQW [f] = ec at *
  have HEX := Lib.hid hex
  have HDV := Lib.hid hdv
  have HLEN := Lib.hid hlen
  clear hex hdv hlen hq hbA h1 hb0 hsz hm hn
  generalize f.neg = s1 at *
  generalize f.num.length = l1 at *
  generalize f.den.length = l2 at *
  by_cases h0 : ec = 0
  · subst h0
    rw [if_pos rfl]
    obtain ⟨res, hres⟩ : ∃ res, res = (if s1 = true ∧ m % n ≠ 0 then m / n + 1 else m / n) := ⟨_, rfl⟩
    rw [← hres]
    have HRES := Lib.hid hres
    clear hres
    have HDU := Lib.hid (HDV.out rfl)
    have HLU := Lib.hid (HLEN.out rfl)
    clear HDV HLEN
    subst hW
    go_enter Try.func96, Try.ntmps96
    go_wp2_with fail
    refine HEX.out.mono ?_
    rintro e w2 ⟨he, hq2, hb2⟩
    subst he
    have x0 := hq2.c0
    have x1 := hq2.c1
    have x2 := hq2.c2
    have hdv := Lib.hid (HDU.out w2 hb2)
    go_wp2_with fail
    refine hdv.out.mono ?_
    rintro e w3 ⟨vq, vr, he, hQ, hR, hb3⟩
    subst he
    have hq3 := hq2.below hb3 hq2.lt
    have hb23 := hb2.trans (hb3.mono hb2.size)
    have y0 := hq3.c0
    have hz := dg_zero_iff (n := m % n)
    obtain ⟨A', c', rfl, -⟩ := hR.form
    have HZ := Lib.hid hz
    clear hz hR
    generalize (dg (m % n)).length = lr at *
    cases s1
    · have hres := HRES.out
      rw [if_neg (by simp)] at hres
      subst hres
      clear HZ
      go_wp2_with fail
      go_ret3
      exact ⟨_, rfl, hQ, hb23⟩
    · by_cases hR0 : m % n = 0
      · have hl0 := HZ.out.2 hR0
        have hres := HRES.out
        rw [if_neg (by simp [hR0])] at hres
        subst hres
        subst hl0
        clear HZ HRES hR0
        go_wp2_with fail
        go_ret3
        exact ⟨_, rfl, hQ, hb23⟩
      · have hl0 : lr ≠ 0 := fun h => hR0 (HZ.out.1 h)
        have t1 : (0 : Int) < (lr : Int) := by omega
        have t0 : decide ((0 : Int) < (lr : Int)) = true := decide_eq_true t1
        have hres := HRES.out
        rw [if_pos ⟨rfl, hR0⟩] at hres
        have HRS := Lib.hid hres
        clear HZ HRES hR0 hres hl0
        have HO := Lib.hid ((rone_any w3).mono (fun e w' (h : RNum w3 1 e w') => (by obtain ⟨v, a1, a2, a3, -⟩ := h; exact ⟨v, a1, a2, a3⟩ : RNum0 w3 1 e w')))
        go_wp2_with fail
        refine HO.out.mono ?_
        rintro e w4 ⟨v1, he, hn1, hb4⟩
        subst he
        have hQ4 := Lim.up hQ hb4
        have hq4 := hq3.below hb4 hq3.lt
        have hb24 := hb23.trans (hb4.mono hb23.size)
        have HPL := Lib.hid (rplus_num hQ4 hn1 (by have := HLU.out; omega) (by rw [len_one]; omega))
        go_wp2_with fail
        refine HPL.out.mono ?_
        rintro e w5 ⟨v5, he, hn5, hb5⟩
        subst he
        have hq5 := hq4.below hb5 hq4.lt
        have y2 := hq5.c0
        have hb25 := hb24.trans (hb5.mono hb24.size)
        go_wp2_with fail
        go_ret3
        exact ⟨v5, rfl, by rw [HRS.out]; exact hn5, hb25⟩
  · rw [if_neg h0]
    have q1 : (ec == 0) = false := by simp [h0]
    have q2 : (ec != 0) = true := by simp [h0]
    subst hW
    clear h0
    go_enter Try.func96, Try.ntmps96
    go_wp2_with fail
    refine HEX.out.mono ?_
    rintro e w2 ⟨he, hq2, hb2⟩
    subst he
    go_wp2_with fail
    go_ret3
    exact ⟨.slice none 0 0, rfl, Num.zero _ _, hb2⟩
end Go.Proofs.Ytmmgbofhbnflkaa
namespace Go.Proofs.Ytmmgbofhbnflkaa
open Go.RowKit

/-! The reference's examination of numbers; Small. -/
def RbRel (w : World) (ls : List (List Nat)) (P : List Nat → Prop) (i : Value) (wr : World) : Prop := ∃ k : Nat, k ≤ ls.length ∧ i = .int .i64 (k : Int) ∧ (∀ (j : Nat) (l : List Nat), j < k → ls[j]? = some l → ¬ P l) ∧ Drawn w wr

set_option maxRecDepth 100000 in
set_option maxHeartbeats 4000000 in
theorem rbad_any (g cap : Nat) (vs : List Value) (ls : List (List Nat)) (w : World) (hlen : vs.length = ls.length) (hn : ls.length ≤ 1000) (hcells : ∀ (i : Nat) (v : Value), vs[i]? = some v → w.cell? ⟨g, i, none⟩ = some v)
    (hl : ∀ (i : Nat) (v : Value) (l : List Nat), vs[i]? = some v → ls[i]? = some l → Arg w v l) :
    Calls Try.prog 81 #[.slice (some ⟨g, 0, none⟩) ls.length cap] w fun e w' => e = .returned (.int .i64 (examW ls)) ∧ Drawn w w' := by
  have hget : ∀ k, k < ls.length → ∃ A c l, ls[k]? = some l ∧ w.cell? ⟨g, k, none⟩ = some (.slice A l.length c) ∧ Arg w (.slice A l.length c) l := by
    intro k hk
    have h1 : vs[k]? = some (vs[k]'(by omega)) := List.getElem?_eq_getElem (by omega)
    have h2 : ls[k]? = some (ls[k]'hk) := List.getElem?_eq_getElem hk
    have h3 := hl k _ _ h1 h2
    obtain ⟨A, c, e, -⟩ := h3.1.form
    have h5 := hcells k _ h1
    rw [e] at h3 h5
    exact ⟨A, c, _, h2, h5, h3⟩
  have HG := Lib.hid hget
  clear hl hcells hget hlen
  go_enter Try.func81, Try.ntmps81
  go_wp2_with fail
  go_loopw [3] (fun i wr => RbRel w ls (fun l => 512 < l.length) i wr) (fun i _ => ls.length - (intOf i).toNat)
  case atStart => exact ⟨0, Nat.zero_le _, rfl, (fun j l hj => by omega), Drawn.refl _⟩
  case round =>
    obtain ⟨k, hk, rfl, hno, hdr⟩ := hrel
    by_cases hlt : k < ls.length
    · obtain ⟨A, c, l, h1, h2', h3⟩ := HG.out k hlt
      have h2 : wr.cell? ⟨g, k, none⟩ = some (.slice A l.length c) := by obtain ⟨q, rfl⟩ := hdr; exact h2'
      have hklt : (k : Int) < (ls.length : Int) := by omega
      have hk0 : (0 : Int) ≤ (k : Int) := Int.natCast_nonneg _
      have HDR := Lib.hid hdr
      clear hdr h2'
      by_cases hbig : 512 < l.length
      · have hex := examW_long h1 hbig
        have hbi : (512 : Int) < (l.length : Int) := by omega
        have HEX := Lib.hid hex
        clear hex h1 hno h3
        go_wp2_with fail
        go_ret
        exact ⟨by rw [HEX.out]; rfl, HDR.out⟩
      · have hno' : ∀ (j : Nat) (l' : List Nat), j < k + 1 → ls[j]? = some l' → ¬ 512 < l'.length := by
          intro j l' hj hl'
          rcases Nat.lt_or_ge j k with h | h
          · exact hno j l' h hl'
          · have : j = k := by omega
            subst this
            rw [h1] at hl'
            cases hl'
            exact hbig
        have hbi : ¬ (512 : Int) < (l.length : Int) := by omega
        have HNO := Lib.hid hno'
        clear hno' hno h1 h3
        go_wp2_with fail
        first
          | exact ⟨⟨k + 1, by omega, by first | rfl | go_num, HNO.out, HDR.out⟩, by simp [intOf]; omega⟩
          | (go_roundw
             case rel => exact ⟨k + 1, by omega, by first | rfl | go_num, HNO.out, HDR.out⟩
             case measure => simp [intOf]; omega)
    · obtain rfl : k = ls.length := by omega
      have hsh := examW_short (fun j l hj hl => hno j l hj hl)
      have SHORT : ∀ (j : Nat) (l : List Nat), ls[j]? = some l → l.length ≤ 512 := fun j l hl => by
        have := hno j l (List.getElem?_eq_some_iff.1 hl).1 hl
        omega
      have HSH := Lib.hid hsh
      have SHO := Lib.hid SHORT
      clear hsh hno SHORT
      go_wp2_with fail
      go_loopw [4] (fun i wr' => RbRel w ls (fun l => l.getLast? = some 0) i wr') (fun i _ => ls.length - (intOf i).toNat)
      case atStart => exact ⟨0, Nat.zero_le _, rfl, (fun j l hj => by omega), hdr⟩
      case round =>
        clear hk hdr
        obtain ⟨k, hk, rfl, hno, hdr⟩ := hrel
        by_cases hlt2 : k < ls.length
        · obtain ⟨A, c, l, h1, h2', h3'⟩ := HG.out k hlt2
          have h2 : wr.cell? ⟨g, k, none⟩ = some (.slice A l.length c) := by obtain ⟨q, rfl⟩ := hdr; exact h2'
          have h3 := h3'.up hdr.below
          have hklt : (k : Int) < (ls.length : Int) := by omega
          have hk0 : (0 : Int) ≤ (k : Int) := Int.natCast_nonneg _
          have hva := rValid_any _ l wr h3
          have hvl : validW l = decide (¬ l.getLast? = some 0 ∧ l.length ≤ 512) := by
            unfold validW
            by_cases a1 : l.length ≤ 512 <;> by_cases a2 : l.getLast? = some 0 <;> simp [a1, a2]
          by_cases hz : validW l = true
          · rw [hz] at hva
            have hnext : ∀ (j : Nat) (l' : List Nat), j < k + 1 → ls[j]? = some l' → ¬ l'.getLast? = some 0 := by
              intro j l' hj hl'
              rcases Nat.lt_or_ge j k with h | h
              · exact hno j l' h hl'
              · have : j = k := by omega
                subst this
                rw [h1] at hl'
                cases hl'
                rw [hvl] at hz
                exact (of_decide_eq_true hz).1
            have HNO := Lib.hid hnext
            have HVA := Lib.hid hva
            have HDR := Lib.hid hdr
            clear hnext hno h1 h3 h3' h2' hz hvl hva hdr
            go_wp2_with fail
            refine HVA.out.mono ?_
            rintro e w2 ⟨he, hd2⟩
            subst he
            have HD2 := Lib.hid (HDR.out.trans hd2)
            clear hd2
            go_wp2_with fail
            first
              | exact ⟨⟨k + 1, by omega, by first | rfl | go_num, HNO.out, HD2.out⟩, by simp [intOf]; omega⟩
              | (go_roundw
                 case rel => exact ⟨k + 1, by omega, by first | rfl | go_num, HNO.out, HD2.out⟩
                 case measure => simp [intOf]; omega)
          · have hzf : validW l = false := by simpa using hz
            rw [hzf] at hva
            have hsh := HSH.out
            have HNB := Lib.hid (SHO.out k l h1)
            have hany : ls.any (fun l => decide (l.getLast? = some 0)) = true := by
              rw [List.any_eq_true]
              refine ⟨l, List.mem_of_getElem? h1, decide_eq_true ?_⟩
              rw [hvl] at hzf
              have h9 := of_decide_eq_false hzf
              by_cases h8 : l.getLast? = some 0
              · exact h8
              · exact absurd ⟨h8, HNB.out⟩ h9
            rw [hany] at hsh
            have HEX := Lib.hid hsh
            have HVA := Lib.hid hva
            have HDR := Lib.hid hdr
            clear hno h1 h3 h3' h2' hz hzf hvl hva hdr hsh hany
            go_wp2_with fail
            refine HVA.out.mono ?_
            rintro e w2 ⟨he, hd2⟩
            subst he
            have HD2 := Lib.hid (HDR.out.trans hd2)
            clear hd2
            go_wp2_with fail
            go_ret
            exact ⟨by rw [HEX.out]; rfl, HD2.out⟩
        · obtain rfl : k = ls.length := by omega
          have hany : ls.any (fun l => decide (l.getLast? = some 0)) = false := by
            rw [List.any_eq_false]
            intro l hl
            obtain ⟨j, hj⟩ := List.mem_iff_getElem?.1 hl
            have := hno j l (List.getElem?_eq_some_iff.1 hj).1 hj
            simpa using this
          have hex := HSH.out
          rw [hany] at hex
          have HEX := Lib.hid hex
          have HDR := Lib.hid hdr
          clear hex hany hno hdr
          go_wp2_with fail
          go_ret
          exact ⟨by rw [HEX.out]; rfl, HDR.out⟩
theorem rexam1 (v : Value) (l : List Nat) (w : World) (h : Arg w v l) :
    Calls Try.prog 81 #[.slice (some ⟨w.heap.size, 0, none⟩) 1 1] (w.alloc (.cells #[v] 59)) fun e w' => e = .returned (.int .i64 (examW [l])) ∧ Below w.heap.size w w' := by
  have hb : Below w.heap.size w (w.alloc (.cells #[v] 59)) := (Below.refl _ w).alloc (Nat.le_refl _) _
  have h0 := rbad_any w.heap.size 1 [v] [l] (w.alloc (.cells #[v] 59)) rfl (by simp) (fun i u hu => by
    rw [Go.Joins.cell_of_block (World.alloc_heap_new w _) i]
    simpa using hu) (fun i u l' hu hl' => by
    match i, hu, hl' with
    | 0, hu, hl' =>
      simp at hu hl'
      subst hu hl'
      exact h.up hb)
  exact h0.mono fun e w' h => ⟨h.1, hb.trans (h.2.below.mono hb.size)⟩
theorem rexam2 (va vb : Value) (la lb : List Nat) (w : World) (ha : Arg w va la) (hb : Arg w vb lb) :
    Calls Try.prog 81 #[.slice (some ⟨w.heap.size, 0, none⟩) 2 2] (w.alloc (.cells #[va, vb] 59)) fun e w' => e = .returned (.int .i64 (examW [la, lb])) ∧ Below w.heap.size w w' := by
  have hbl : Below w.heap.size w (w.alloc (.cells #[va, vb] 59)) := (Below.refl _ w).alloc (Nat.le_refl _) _
  have h0 := rbad_any w.heap.size 2 [va, vb] [la, lb] (w.alloc (.cells #[va, vb] 59)) rfl (by simp) (fun i u hu => by
    rw [Go.Joins.cell_of_block (World.alloc_heap_new w _) i]
    simpa using hu) (fun i u l' hu hl' => by
    match i, hu, hl' with
    | 0, hu, hl' =>
      simp at hu hl'
      subst hu hl'
      exact ha.up hbl
    | 1, hu, hl' =>
      simp at hu hl'
      subst hu hl'
      exact hb.up hbl)
  exact h0.mono fun e w' h => ⟨h.1, hbl.trans (h.2.below.mono hbl.size)⟩
end Go.Proofs.Ytmmgbofhbnflkaa
namespace Go.Proofs.Ytmmgbofhbnflkaa
open Go.RowKit

/-- A result that may be too long. -/
def resV (w : World) (n : Nat) (e : Ending) (w' : World) : Prop :=
  ∃ v, e = .returned (.tuple #[v, .int .i64 (if 512 < (dg n).length then 3 else 0)]) ∧ Num w' w'.heap.size v (if 512 < (dg n).length then 0 else n) ∧ Below w.heap.size w w'
/-- A number and an error number. -/
def Res (w : World) (r : Nat × Int) (e : Ending) (w' : World) : Prop := ∃ v, e = .returned (.tuple #[v, .int .i64 r.2]) ∧ Num w' w'.heap.size v r.1 ∧ Below w.heap.size w w'
def fitW (n : Nat) : Nat × Int := (if 512 < (dg n).length then 0 else n, if 512 < (dg n).length then 3 else 0)
def smallW (l : List Nat) : Nat × Int := if examW [l] = 0 then (if 64 < bitsOf (val l) then (0, 7) else (val l, 0)) else (0, examW [l])
def bitsW (l : List Nat) : Nat × Int := if examW [l] = 0 then (bitsOf (val l), 0) else (0, examW [l])
def powPart (neg : Bool) (m n j : Nat) : Bool × Nat × Nat × Int :=
  if n = 0 then (false, 0, 0, 4) else if 512 < (dg (m ^ j)).length ∨ 512 < (dg (n ^ j)).length then (false, 0, 0, 3) else (neg && decide (j % 2 = 1), m ^ j, n ^ j, 0)
def qpowW (f : Fr) (k : Int) : Bool × Nat × Nat × Int :=
  if examQW [f] = 0 then (if k < -2000 ∨ 2000 < k then (false, 0, 0, 2) else if k < 0 then powPart f.neg (val f.den) (val f.num) (-k).toNat else powPart f.neg (val f.num) (val f.den) k.toNat) else (false, 0, 0, examQW [f])
end Go.Proofs.Ytmmgbofhbnflkaa
namespace Go.Proofs.Ytmmgbofhbnflkaa
open Go.RowKit

/-! The reference's Small. -/
theorem rsmall_limbs {n : Nat} : (2 < (dg n).length) ↔ 64 < bitsOf n := by
  have h1 := dg_le (n := n) (k := 2)
  have h2 := bits_le_iff (n := n) (k := 64)
  have h3 : LB ^ 2 = 2 ^ 64 := rfl
  rw [h3] at h1
  omega
theorem val_small {n : Nat} (h : ¬ 2 < (dg n).length) : n = (dg n)[1]?.getD 0 * 4294967296 + (dg n)[0]?.getD 0 ∧ (dg n)[1]?.getD 0 < 4294967296 ∧ (dg n)[0]?.getD 0 < 4294967296 := by
  have hl : n < LB ^ 2 := dg_le.1 (by omega)
  have h0 := limb_val (ok_dg n) 0
  have h1 := limb_val (ok_dg n) 1
  rw [val_dg, Nat.pow_zero, Nat.div_one] at h0
  rw [val_dg, Nat.pow_one] at h1
  have h3 : LB ^ 2 = 4294967296 * 4294967296 := rfl
  have h4 : LB = 4294967296 := rfl
  rw [h3] at hl
  rw [h4] at h0 h1
  omega

set_option maxRecDepth 100000 in
set_option maxHeartbeats 2000000 in
theorem rSmall_any (va : Value) (la : List Nat) (w : World) (ha : Arg w va la) :
    Calls Try.prog 62 #[va] w fun e w' => e = .returned (.tuple #[.int .u64 ((smallW la).1 : Int), .int .i64 (smallW la).2]) ∧ Below w.heap.size w w' := by
  have hex := rexam1 va la w ha
  have hl1 := fun W (h : Below w.heap.size w W) => rlimb_any va la 1 w.heap.size W (ha.1.below h)
  have hl0 := fun W (h : Below w.heap.size w W) => rlimb_any va la 0 w.heap.size W (ha.1.below h)
  have hnum : examW [la] = 0 → dg (val la) = la := fun h => (ha.num h (by simp)).2.2
  have hlt : ¬ 2 < (dg (val la)).length → _ := val_small
  have hb64 := rsmall_limbs (n := val la)
  obtain ⟨A, capa, rfl, -⟩ := ha.1.form
  unfold smallW
  by_cases h0 : examW [la] = 0
  · rw [if_pos h0]
    rw [h0] at hex
    rw [hnum h0] at hlt hb64
    have HEX := Lib.hid hex
    have HL1 := Lib.hid hl1
    have HL0 := Lib.hid hl0
    clear hex hl1 hl0 hnum ha h0
    by_cases hb : 64 < bitsOf (val la)
    · have hlen := hb64.2 hb
      rw [if_pos hb]
      have hbi : (2 : Int) < (la.length : Int) := by omega
      clear hb hlen hb64 hlt
      generalize la.length = l1 at *
      go_enter Try.func62, Try.ntmps62
      go_wp2_with fail
      refine HEX.out.mono ?_
      rintro e w2 ⟨he, hb2⟩
      subst he
      go_wp2_with fail
      go_ret2
      exact ⟨rfl, hb2⟩
    · have hlen : ¬ 2 < la.length := fun h => hb (hb64.1 h)
      rw [if_neg hb]
      have hbi : ¬ (2 : Int) < (la.length : Int) := by omega
      obtain ⟨v1, v2, v3⟩ := hlt hlen
      have HV := Lib.hid v1
      clear hb hlen hb64 hlt v1
      generalize val la = m at *
      generalize la[1]?.getD 0 = x at *
      generalize la[0]?.getD 0 = y at *
      generalize la.length = l1 at *
      have x0 : (0 : Int) ≤ (x : Int) := Int.natCast_nonneg _
      have y0 : (0 : Int) ≤ (y : Int) := Int.natCast_nonneg _
      go_enter Try.func62, Try.ntmps62
      go_wp2_with fail
      refine HEX.out.mono ?_
      rintro e w2 ⟨he, hb2⟩
      subst he
      go_wp2_with fail
      refine (HL1.out w2 hb2).mono ?_
      rintro e w3 ⟨he, rfl⟩
      subst he
      go_wp2_with fail
      refine (HL0.out w2 hb2).mono ?_
      rintro e w3 ⟨he, rfl⟩
      subst he
      go_wp2_with fail
      go_ret2
      refine ⟨?_, hb2⟩
      have e1 : ((m : Nat) : Int) = (x : Int) * 4294967296 + (y : Int) := by rw [HV.out]; simp
      rw [e1]
      first
        | rfl
        | (congr 3; simp [IntKind.wrap]; omega)
  · rw [if_neg h0]
    obtain ⟨ec, hec⟩ : ∃ ec, ec = examW [la] := ⟨_, rfl⟩
    rw [← hec] at hex h0 ⊢
    have q1 : (ec == 0) = false := by simp [h0]
    have q2 : (ec != 0) = true := by simp [h0]
    have HEX := Lib.hid hex
    clear hex hl1 hl0 hnum ha h0 hec hlt hb64
    generalize la.length = l1 at *
    go_enter Try.func62, Try.ntmps62
    go_wp2_with fail
    refine HEX.out.mono ?_
    rintro e w2 ⟨he, hb2⟩
    subst he
    go_wp2_with fail
    go_ret2
    exact ⟨rfl, hb2⟩
end Go.Proofs.Ytmmgbofhbnflkaa
