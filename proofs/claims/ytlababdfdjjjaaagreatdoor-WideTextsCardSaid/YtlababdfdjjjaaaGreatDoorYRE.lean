import Derived.Test.YtlababdfdjjjaaaGreatDoorYRD
namespace Go.Proofs.YtlababdfdjjjaaaGreatDoor
open Go.RowKit

/-! The reference's floor of a fraction. -/
theorem rexQ1 (f1 : Fr) (n1 d1 : Value) (w : World) (h1 : FrV w f1 n1 d1) :
    Calls Tryz.prog 107 #[.slice (some ⟨w.heap.size, 0, none⟩) 1 1] (w.alloc (.cells #[.bool f1.neg, n1, d1] 48)) fun e w' => e = .returned (.int .i64 (examQW [f1])) ∧ Below (w.heap.size + 1) (w.alloc (.cells #[.bool f1.neg, n1, d1] 48)) w' := by
  obtain ⟨W, hW⟩ : ∃ W, W = w.alloc (.cells #[.bool f1.neg, n1, d1] 48) := ⟨_, rfl⟩
  have hb : Below w.heap.size w W := by rw [hW]; exact (Below.refl _ _).alloc (Nat.le_refl _) _
  have hrow : W.heap[w.heap.size]? = some (.cells #[.bool f1.neg, n1, d1] 48 (0, 0)) := by rw [hW]; exact World.alloc_heap_new w _
  have hsz : W.heap.size = w.heap.size + 1 := by rw [hW]; simp
  rw [← hW]
  have g1 := h1.up hb
  obtain ⟨A1, a1, rfl, -⟩ := g1.1.1.form
  obtain ⟨A2, a2, rfl, -⟩ := g1.2.1.form
  have h := rbadq_any w.heap.size 1 [f1] W (by omega) (by simp) (fun k f hk => by
    match k, hk with
    | 0, hk =>
      simp at hk; subst hk
      exact ⟨_, _, _, _, _, _, by rw [Go.Joins.cell_of_block hrow]; rfl, by rw [Go.Joins.cell_of_block hrow]; rfl, by rw [Go.Joins.cell_of_block hrow]; rfl, g1.1, g1.2⟩)
  rw [hsz] at h
  exact h

set_option maxRecDepth 100000 in
set_option maxHeartbeats 4000000 in
theorem rQFloor_any (f : Fr) (vn vd : Value) (w : World) (h1 : FrV w f vn vd) :
    Calls Tryz.prog 61 #[.agg #[.bool f.neg, vn, vd]] w (ResFl w (qfloorW f)) := by
  have hq := QB.new w f.neg vn vd
  obtain ⟨W, hW⟩ : ∃ W, W = w.alloc (.cells #[.bool f.neg, vn, vd] 48) := ⟨_, rfl⟩
  rw [← hW] at hq
  have hb0 : Below w.heap.size w W := by rw [hW]; exact (Below.refl _ _).alloc (Nat.le_refl _) _
  have hsz : W.heap.size = w.heap.size + 1 := by rw [hW]; simp
  have hex := rexQ1 f vn vd W (h1.up hb0)
  have hbA : Below W.heap.size W (W.alloc (.cells #[.bool f.neg, vn, vd] 48)) := (Below.refl _ _).alloc (Nat.le_refl _) _
  replace hex := hex.mono (fun e w' (h : e = .returned (.int .i64 (examQW [f])) ∧ _) => (⟨h.1, hq.below (hbA.trans (h.2.mono (Nat.le_succ _))) hq.lt, hb0.trans ((hbA.trans (h.2.mono (Nat.le_succ _))).mono hb0.size)⟩ : e = .returned (.int .i64 (examQW [f])) ∧ QB w' w.heap.size f.neg vn vd ∧ Below w.heap.size w w'))
  rw [hsz] at hex
  have c0 := hq.c0
  have c1 := hq.c1
  have c2 := hq.c2
  have hdv : examQW [f] = 0 → ∀ W', Below w.heap.size w W' → Calls Tryz.prog 99 #[vn, vd] W' (RDiv W' (val f.num) (val f.den)) := by
    intro h0 W' hW'
    obtain ⟨a1, a2, a3, a4, a5⟩ := (h1.up hW').ok (examQW_ok h0 f (by simp))
    exact rdivide_any vn vd _ _ W' a1 a2 (by omega) (by omega) (by omega)
  have hlen : examQW [f] = 0 → (dg (val f.num / val f.den)).length ≤ 512 := by
    intro h0
    obtain ⟨a1, a2, a3, a4, a5⟩ := h1.ok (examQW_ok h0 f (by simp))
    exact Nat.le_trans (dg_mono (Nat.div_le_self _ _)) a4
  have fn1 := h1.1.1.form
  have fd1 := h1.2.1.form
  obtain ⟨A1, e1, rfl, -⟩ := fn1
  obtain ⟨A2, e2, rfl, -⟩ := fd1
  unfold qfloorW
  generalize hm : val f.num = m at *
  generalize hn : val f.den = n at *
  generalize examQW [f] = ec at *
  have HEX := Lib.hid hex
  have HDV := Lib.hid hdv
  have HLEN := Lib.hid hlen
  clear hex hdv hlen hq hbA h1 hb0 hsz hm hn
  generalize f.neg = s1 at *
  generalize f.num.length = l1 at *
  generalize f.den.length = l2 at *
  by_cases h0 : ec = 0
  · subst h0
    rw [if_pos rfl]
    obtain ⟨res, hres⟩ : ∃ res, res = (if s1 = true ∧ m % n ≠ 0 then m / n + 1 else m / n) := ⟨_, rfl⟩
    rw [← hres]
    have HRES := Lib.hid hres
    clear hres
    have HDU := Lib.hid (HDV.out rfl)
    have HLU := Lib.hid (HLEN.out rfl)
    clear HDV HLEN
    subst hW
    go_enter Tryz.func61, Tryz.ntmps61
    go_wp2_with fail
    refine HEX.out.mono ?_
    rintro e w2 ⟨he, hq2, hb2⟩
    subst he
    have x0 := hq2.c0
    have x1 := hq2.c1
    have x2 := hq2.c2
    have hdv := Lib.hid (HDU.out w2 hb2)
    go_wp2_with fail
    refine hdv.out.mono ?_
    rintro e w3 ⟨vq, vr, he, hQ, hR, hb3⟩
    subst he
    have hq3 := hq2.below hb3 hq2.lt
    have hb23 := hb2.trans (hb3.mono hb2.size)
    have y0 := hq3.c0
    have hz := dg_zero_iff (n := m % n)
    obtain ⟨A', c', rfl, -⟩ := hR.form
    have HZ := Lib.hid hz
    clear hz hR
    generalize (dg (m % n)).length = lr at *
    cases s1
    · have hres := HRES.out
      rw [if_neg (by simp)] at hres
      subst hres
      clear HZ
      go_wp2_with fail
      go_ret3
      exact ⟨_, rfl, hQ, hb23⟩
    · by_cases hR0 : m % n = 0
      · have hl0 := HZ.out.2 hR0
        have hres := HRES.out
        rw [if_neg (by simp [hR0])] at hres
        subst hres
        subst hl0
        clear HZ HRES hR0
        go_wp2_with fail
        go_ret3
        exact ⟨_, rfl, hQ, hb23⟩
      · have hl0 : lr ≠ 0 := fun h => hR0 (HZ.out.1 h)
        have t1 : (0 : Int) < (lr : Int) := by omega
        have t0 : decide ((0 : Int) < (lr : Int)) = true := decide_eq_true t1
        have hres := HRES.out
        rw [if_pos ⟨rfl, hR0⟩] at hres
        have HRS := Lib.hid hres
        clear HZ HRES hR0 hres hl0
        have HO := Lib.hid ((rone_any w3).mono (fun e w' (h : RNum w3 1 e w') => (by obtain ⟨v, a1, a2, a3, -⟩ := h; exact ⟨v, a1, a2, a3⟩ : RNum0 w3 1 e w')))
        go_wp2_with fail
        refine HO.out.mono ?_
        rintro e w4 ⟨v1, he, hn1, hb4⟩
        subst he
        have hQ4 := Lim.up hQ hb4
        have hq4 := hq3.below hb4 hq3.lt
        have hb24 := hb23.trans (hb4.mono hb23.size)
        have HPL := Lib.hid (rplus_num hQ4 hn1 (by have := HLU.out; omega) (by rw [len_one]; omega))
        go_wp2_with fail
        refine HPL.out.mono ?_
        rintro e w5 ⟨v5, he, hn5, hb5⟩
        subst he
        have hq5 := hq4.below hb5 hq4.lt
        have y2 := hq5.c0
        have hb25 := hb24.trans (hb5.mono hb24.size)
        go_wp2_with fail
        go_ret3
        exact ⟨v5, rfl, by rw [HRS.out]; exact hn5, hb25⟩
  · rw [if_neg h0]
    have q1 : (ec == 0) = false := by simp [h0]
    have q2 : (ec != 0) = true := by simp [h0]
    subst hW
    clear h0
    go_enter Tryz.func61, Tryz.ntmps61
    go_wp2_with fail
    refine HEX.out.mono ?_
    rintro e w2 ⟨he, hq2, hb2⟩
    subst he
    go_wp2_with fail
    go_ret3
    exact ⟨.slice none 0 0, rfl, Num.zero _ _, hb2⟩
end Go.Proofs.YtlababdfdjjjaaaGreatDoor
namespace Go.Proofs.YtlababdfdjjjaaaGreatDoor
open Go.RowKit

/-! The reference's examination of numbers; Small. -/
def RbRel (w : World) (ls : List (List Nat)) (P : List Nat → Prop) (i : Value) (wr : World) : Prop := ∃ k : Nat, k ≤ ls.length ∧ i = .int .i64 (k : Int) ∧ (∀ (j : Nat) (l : List Nat), j < k → ls[j]? = some l → ¬ P l) ∧ Drawn w wr

set_option maxRecDepth 100000 in
set_option maxHeartbeats 4000000 in
theorem rbad_any (g cap : Nat) (vs : List Value) (ls : List (List Nat)) (w : World) (hlen : vs.length = ls.length) (hn : ls.length ≤ 1000) (hcells : ∀ (i : Nat) (v : Value), vs[i]? = some v → w.cell? ⟨g, i, none⟩ = some v)
    (hl : ∀ (i : Nat) (v : Value) (l : List Nat), vs[i]? = some v → ls[i]? = some l → Arg w v l) :
    Calls Tryz.prog 73 #[.slice (some ⟨g, 0, none⟩) ls.length cap] w fun e w' => e = .returned (.int .i64 (examW ls)) ∧ Drawn w w' := by
  have hget : ∀ k, k < ls.length → ∃ A c l, ls[k]? = some l ∧ w.cell? ⟨g, k, none⟩ = some (.slice A l.length c) ∧ Arg w (.slice A l.length c) l := by
    intro k hk
    have h1 : vs[k]? = some (vs[k]'(by omega)) := List.getElem?_eq_getElem (by omega)
    have h2 : ls[k]? = some (ls[k]'hk) := List.getElem?_eq_getElem hk
    have h3 := hl k _ _ h1 h2
    obtain ⟨A, c, e, -⟩ := h3.1.form
    have h5 := hcells k _ h1
    rw [e] at h3 h5
    exact ⟨A, c, _, h2, h5, h3⟩
  have HG := Lib.hid hget
  clear hl hcells hget hlen
  go_enter Tryz.func73, Tryz.ntmps73
  go_wp2_with fail
  go_loopw [3] (fun i wr => RbRel w ls (fun l => 512 < l.length) i wr) (fun i _ => ls.length - (intOf i).toNat)
  case atStart => exact ⟨0, Nat.zero_le _, rfl, (fun j l hj => by omega), Drawn.refl _⟩
  case round =>
    obtain ⟨k, hk, rfl, hno, hdr⟩ := hrel
    by_cases hlt : k < ls.length
    · obtain ⟨A, c, l, h1, h2', h3⟩ := HG.out k hlt
      have h2 : wr.cell? ⟨g, k, none⟩ = some (.slice A l.length c) := by obtain ⟨q, rfl⟩ := hdr; exact h2'
      have hklt : (k : Int) < (ls.length : Int) := by omega
      have hk0 : (0 : Int) ≤ (k : Int) := Int.natCast_nonneg _
      have HDR := Lib.hid hdr
      clear hdr h2'
      by_cases hbig : 512 < l.length
      · have hex := examW_long h1 hbig
        have hbi : (512 : Int) < (l.length : Int) := by omega
        have HEX := Lib.hid hex
        clear hex h1 hno h3
        go_wp2_with fail
        go_ret
        exact ⟨by rw [HEX.out]; rfl, HDR.out⟩
      · have hno' : ∀ (j : Nat) (l' : List Nat), j < k + 1 → ls[j]? = some l' → ¬ 512 < l'.length := by
          intro j l' hj hl'
          rcases Nat.lt_or_ge j k with h | h
          · exact hno j l' h hl'
          · have : j = k := by omega
            subst this
            rw [h1] at hl'
            cases hl'
            exact hbig
        have hbi : ¬ (512 : Int) < (l.length : Int) := by omega
        have HNO := Lib.hid hno'
        clear hno' hno h1 h3
        go_wp2_with fail
        first
          | exact ⟨⟨k + 1, by omega, by first | rfl | go_num, HNO.out, HDR.out⟩, by simp [intOf]; omega⟩
          | (go_roundw
             case rel => exact ⟨k + 1, by omega, by first | rfl | go_num, HNO.out, HDR.out⟩
             case measure => simp [intOf]; omega)
    · obtain rfl : k = ls.length := by omega
      have hsh := examW_short (fun j l hj hl => hno j l hj hl)
      have SHORT : ∀ (j : Nat) (l : List Nat), ls[j]? = some l → l.length ≤ 512 := fun j l hl => by
        have := hno j l (List.getElem?_eq_some_iff.1 hl).1 hl
        omega
      have HSH := Lib.hid hsh
      have SHO := Lib.hid SHORT
      clear hsh hno SHORT
      go_wp2_with fail
      go_loopw [4] (fun i wr' => RbRel w ls (fun l => l.getLast? = some 0) i wr') (fun i _ => ls.length - (intOf i).toNat)
      case atStart => exact ⟨0, Nat.zero_le _, rfl, (fun j l hj => by omega), hdr⟩
      case round =>
        clear hk hdr
        obtain ⟨k, hk, rfl, hno, hdr⟩ := hrel
        by_cases hlt2 : k < ls.length
        · obtain ⟨A, c, l, h1, h2', h3'⟩ := HG.out k hlt2
          have h2 : wr.cell? ⟨g, k, none⟩ = some (.slice A l.length c) := by obtain ⟨q, rfl⟩ := hdr; exact h2'
          have h3 := h3'.up hdr.below
          have hklt : (k : Int) < (ls.length : Int) := by omega
          have hk0 : (0 : Int) ≤ (k : Int) := Int.natCast_nonneg _
          have hva := rValid_any _ l wr h3
          have hvl : validW l = decide (¬ l.getLast? = some 0 ∧ l.length ≤ 512) := by
            unfold validW
            by_cases a1 : l.length ≤ 512 <;> by_cases a2 : l.getLast? = some 0 <;> simp [a1, a2]
          by_cases hz : validW l = true
          · rw [hz] at hva
            have hnext : ∀ (j : Nat) (l' : List Nat), j < k + 1 → ls[j]? = some l' → ¬ l'.getLast? = some 0 := by
              intro j l' hj hl'
              rcases Nat.lt_or_ge j k with h | h
              · exact hno j l' h hl'
              · have : j = k := by omega
                subst this
                rw [h1] at hl'
                cases hl'
                rw [hvl] at hz
                exact (of_decide_eq_true hz).1
            have HNO := Lib.hid hnext
            have HVA := Lib.hid hva
            have HDR := Lib.hid hdr
            clear hnext hno h1 h3 h3' h2' hz hvl hva hdr
            go_wp2_with fail
            refine HVA.out.mono ?_
            rintro e w2 ⟨he, hd2⟩
            subst he
            have HD2 := Lib.hid (HDR.out.trans hd2)
            clear hd2
            go_wp2_with fail
            first
              | exact ⟨⟨k + 1, by omega, by first | rfl | go_num, HNO.out, HD2.out⟩, by simp [intOf]; omega⟩
              | (go_roundw
                 case rel => exact ⟨k + 1, by omega, by first | rfl | go_num, HNO.out, HD2.out⟩
                 case measure => simp [intOf]; omega)
          · have hzf : validW l = false := by simpa using hz
            rw [hzf] at hva
            have hsh := HSH.out
            have HNB := Lib.hid (SHO.out k l h1)
            have hany : ls.any (fun l => decide (l.getLast? = some 0)) = true := by
              rw [List.any_eq_true]
              refine ⟨l, List.mem_of_getElem? h1, decide_eq_true ?_⟩
              rw [hvl] at hzf
              have h9 := of_decide_eq_false hzf
              by_cases h8 : l.getLast? = some 0
              · exact h8
              · exact absurd ⟨h8, HNB.out⟩ h9
            rw [hany] at hsh
            have HEX := Lib.hid hsh
            have HVA := Lib.hid hva
            have HDR := Lib.hid hdr
            clear hno h1 h3 h3' h2' hz hzf hvl hva hdr hsh hany
            go_wp2_with fail
            refine HVA.out.mono ?_
            rintro e w2 ⟨he, hd2⟩
            subst he
            have HD2 := Lib.hid (HDR.out.trans hd2)
            clear hd2
            go_wp2_with fail
            go_ret
            exact ⟨by rw [HEX.out]; rfl, HD2.out⟩
        · obtain rfl : k = ls.length := by omega
          have hany : ls.any (fun l => decide (l.getLast? = some 0)) = false := by
            rw [List.any_eq_false]
            intro l hl
            obtain ⟨j, hj⟩ := List.mem_iff_getElem?.1 hl
            have := hno j l (List.getElem?_eq_some_iff.1 hj).1 hj
            simpa using this
          have hex := HSH.out
          rw [hany] at hex
          have HEX := Lib.hid hex
          have HDR := Lib.hid hdr
          clear hex hany hno hdr
          go_wp2_with fail
          go_ret
          exact ⟨by rw [HEX.out]; rfl, HDR.out⟩
theorem rexam1 (v : Value) (l : List Nat) (w : World) (h : Arg w v l) :
    Calls Tryz.prog 73 #[.slice (some ⟨w.heap.size, 0, none⟩) 1 1] (w.alloc (.cells #[v] 24)) fun e w' => e = .returned (.int .i64 (examW [l])) ∧ Below w.heap.size w w' := by
  have hb : Below w.heap.size w (w.alloc (.cells #[v] 24)) := (Below.refl _ w).alloc (Nat.le_refl _) _
  have h0 := rbad_any w.heap.size 1 [v] [l] (w.alloc (.cells #[v] 24)) rfl (by simp) (fun i u hu => by
    rw [Go.Joins.cell_of_block (World.alloc_heap_new w _) i]
    simpa using hu) (fun i u l' hu hl' => by
    match i, hu, hl' with
    | 0, hu, hl' =>
      simp at hu hl'
      subst hu hl'
      exact h.up hb)
  exact h0.mono fun e w' h => ⟨h.1, hb.trans (h.2.below.mono hb.size)⟩
theorem rexam2 (va vb : Value) (la lb : List Nat) (w : World) (ha : Arg w va la) (hb : Arg w vb lb) :
    Calls Tryz.prog 73 #[.slice (some ⟨w.heap.size, 0, none⟩) 2 2] (w.alloc (.cells #[va, vb] 24)) fun e w' => e = .returned (.int .i64 (examW [la, lb])) ∧ Below w.heap.size w w' := by
  have hbl : Below w.heap.size w (w.alloc (.cells #[va, vb] 24)) := (Below.refl _ w).alloc (Nat.le_refl _) _
  have h0 := rbad_any w.heap.size 2 [va, vb] [la, lb] (w.alloc (.cells #[va, vb] 24)) rfl (by simp) (fun i u hu => by
    rw [Go.Joins.cell_of_block (World.alloc_heap_new w _) i]
    simpa using hu) (fun i u l' hu hl' => by
    match i, hu, hl' with
    | 0, hu, hl' =>
      simp at hu hl'
      subst hu hl'
      exact ha.up hbl
    | 1, hu, hl' =>
      simp at hu hl'
      subst hu hl'
      exact hb.up hbl)
  exact h0.mono fun e w' h => ⟨h.1, hbl.trans (h.2.below.mono hbl.size)⟩
end Go.Proofs.YtlababdfdjjjaaaGreatDoor
namespace Go.Proofs.YtlababdfdjjjaaaGreatDoor
end Go.Proofs.YtlababdfdjjjaaaGreatDoor
namespace Go.Proofs.YtlababdfdjjjaaaGreatDoor
open Go.RowKit

/-! The reference's Small. -/
theorem rsmall_limbs {n : Nat} : (2 < (dg n).length) ↔ 64 < bitsOf n := by
  have h1 := dg_le (n := n) (k := 2)
  have h2 := bits_le_iff (n := n) (k := 64)
  have h3 : LB ^ 2 = 2 ^ 64 := rfl
  rw [h3] at h1
  omega
theorem val_small {n : Nat} (h : ¬ 2 < (dg n).length) : n = (dg n)[1]?.getD 0 * 4294967296 + (dg n)[0]?.getD 0 ∧ (dg n)[1]?.getD 0 < 4294967296 ∧ (dg n)[0]?.getD 0 < 4294967296 := by
  have hl : n < LB ^ 2 := dg_le.1 (by omega)
  have h0 := limb_val (ok_dg n) 0
  have h1 := limb_val (ok_dg n) 1
  rw [val_dg, Nat.pow_zero, Nat.div_one] at h0
  rw [val_dg, Nat.pow_one] at h1
  have h3 : LB ^ 2 = 4294967296 * 4294967296 := rfl
  have h4 : LB = 4294967296 := rfl
  rw [h3] at hl
  rw [h4] at h0 h1
  omega

set_option maxRecDepth 100000 in
set_option maxHeartbeats 2000000 in
theorem rSmall_any (va : Value) (la : List Nat) (w : World) (ha : Arg w va la) :
    Calls Tryz.prog 17 #[va] w fun e w' => e = .returned (.tuple #[.int .u64 ((smallW la).1 : Int), .int .i64 (smallW la).2]) ∧ Below w.heap.size w w' := by
  have hex := rexam1 va la w ha
  have hl1 := fun W (h : Below w.heap.size w W) => rlimb_any va la 1 w.heap.size W (ha.1.below h)
  have hl0 := fun W (h : Below w.heap.size w W) => rlimb_any va la 0 w.heap.size W (ha.1.below h)
  have hnum : examW [la] = 0 → dg (val la) = la := fun h => (ha.num h (by simp)).2.2
  have hlt : ¬ 2 < (dg (val la)).length → _ := val_small
  have hb64 := rsmall_limbs (n := val la)
  obtain ⟨A, capa, rfl, -⟩ := ha.1.form
  unfold smallW
  by_cases h0 : examW [la] = 0
  · rw [if_pos h0]
    rw [h0] at hex
    rw [hnum h0] at hlt hb64
    have HEX := Lib.hid hex
    have HL1 := Lib.hid hl1
    have HL0 := Lib.hid hl0
    clear hex hl1 hl0 hnum ha h0
    by_cases hb : 64 < bitsOf (val la)
    · have hlen := hb64.2 hb
      rw [if_pos hb]
      have hbi : (2 : Int) < (la.length : Int) := by omega
      clear hb hlen hb64 hlt
      generalize la.length = l1 at *
      go_enter Tryz.func17, Tryz.ntmps17
      go_wp2_with fail
      refine HEX.out.mono ?_
      rintro e w2 ⟨he, hb2⟩
      subst he
      go_wp2_with fail
      go_ret2
      exact ⟨rfl, hb2⟩
    · have hlen : ¬ 2 < la.length := fun h => hb (hb64.1 h)
      rw [if_neg hb]
      have hbi : ¬ (2 : Int) < (la.length : Int) := by omega
      obtain ⟨v1, v2, v3⟩ := hlt hlen
      have HV := Lib.hid v1
      clear hb hlen hb64 hlt v1
      generalize val la = m at *
      generalize la[1]?.getD 0 = x at *
      generalize la[0]?.getD 0 = y at *
      generalize la.length = l1 at *
      have x0 : (0 : Int) ≤ (x : Int) := Int.natCast_nonneg _
      have y0 : (0 : Int) ≤ (y : Int) := Int.natCast_nonneg _
      go_enter Tryz.func17, Tryz.ntmps17
      go_wp2_with fail
      refine HEX.out.mono ?_
      rintro e w2 ⟨he, hb2⟩
      subst he
      go_wp2_with fail
      refine (HL1.out w2 hb2).mono ?_
      rintro e w3 ⟨he, rfl⟩
      subst he
      go_wp2_with fail
      refine (HL0.out w2 hb2).mono ?_
      rintro e w3 ⟨he, rfl⟩
      subst he
      go_wp2_with fail
      go_ret2
      refine ⟨?_, hb2⟩
      have e1 : ((m : Nat) : Int) = (x : Int) * 4294967296 + (y : Int) := by rw [HV.out]; simp
      rw [e1]
      first
        | rfl
        | (congr 3; simp [IntKind.wrap]; omega)
  · rw [if_neg h0]
    obtain ⟨ec, hec⟩ : ∃ ec, ec = examW [la] := ⟨_, rfl⟩
    rw [← hec] at hex h0 ⊢
    have q1 : (ec == 0) = false := by simp [h0]
    have q2 : (ec != 0) = true := by simp [h0]
    have HEX := Lib.hid hex
    clear hex hl1 hl0 hnum ha h0 hec hlt hb64
    generalize la.length = l1 at *
    go_enter Tryz.func17, Tryz.ntmps17
    go_wp2_with fail
    refine HEX.out.mono ?_
    rintro e w2 ⟨he, hb2⟩
    subst he
    go_wp2_with fail
    go_ret2
    exact ⟨rfl, hb2⟩
end Go.Proofs.YtlababdfdjjjaaaGreatDoor
