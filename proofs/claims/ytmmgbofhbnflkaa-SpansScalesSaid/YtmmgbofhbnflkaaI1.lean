import Derived.Test.YtmmgbofhbnflkaaI0
namespace Go.Proofs.Ytmmgbofhbnflkaa
open Go.RowKit

theorem examI_bad {ls : List (Int × Int)} {k : Nat} {a : Int × Int} (h : ls[k]? = some a) (hl : (okB a.1 && okB a.2) = false) : examI ls = 7 := by
  unfold examI
  rw [if_neg]
  intro hh
  rw [List.all_eq_true] at hh
  have := hh a (List.mem_of_getElem? h)
  rw [hl] at this; cases this
theorem examI_fit {ls : List (Int × Int)} (h : ∀ (k : Nat) (a : Int × Int), k < ls.length → ls[k]? = some a → (okB a.1 && okB a.2) = true) : examI ls = if ls.all (fun a => decide (a.1 ≤ a.2)) then 0 else 2 := by
  unfold examI
  rw [if_pos]
  rw [List.all_eq_true]
  intro a ha
  obtain ⟨k, hk⟩ := List.mem_iff_getElem?.1 ha
  exact h k a (List.getElem?_eq_some_iff.1 hk).1 hk

def ExRel (w : World) (ls : List (Int × Int)) (P : Int × Int → Prop) (i : Value) (wr : World) : Prop := ∃ k : Nat, k ≤ ls.length ∧ i = .int .i64 (k : Int) ∧ (∀ (j : Nat) (l : Int × Int), j < k → ls[j]? = some l → P l) ∧ Below w.heap.size w wr

set_option maxRecDepth 100000 in
set_option maxHeartbeats 2000000 in
theorem examine_any (g cap : Nat) (ls : List (Int × Int)) (w : World) (hn : ls.length ≤ 1000) (hI : ∀ (i : Nat) a, ls[i]? = some a → I64 a.1 ∧ I64 a.2)
    (hcells : ∀ (i : Nat) a, ls[i]? = some a → w.cell? ⟨g, i * 2, none⟩ = some (.int .i64 a.1) ∧ w.cell? ⟨g, i * 2 + 1, none⟩ = some (.int .i64 a.2)) :
    Calls Try.prog 42 #[.slice (some ⟨g, 0, none⟩) ls.length cap] w fun e w' => e = .returned (.int .i64 (examI ls)) ∧ Below w.heap.size w w' := by
  have HG := Lib.hid hcells
  have HI := Lib.hid hI
  clear hcells hI
  go_enter Try.func42, Try.ntmps42
  go_wp2_with fail
  go_loopw [9] (fun i wr => ExRel w ls (fun a => (okB a.1 && okB a.2) = true) i wr) (fun i _ => ls.length - (intOf i).toNat)
  case atStart => exact ⟨0, Nat.zero_le _, rfl, (fun j l hj => by omega), Below.refl _ _⟩
  case round =>
    obtain ⟨k, hk, rfl, hno, hb⟩ := hrel
    by_cases hlt : k < ls.length
    · obtain ⟨a, h1⟩ : ∃ a, ls[k]? = some a := ⟨ls[k], List.getElem?_eq_getElem hlt⟩
      obtain ⟨c0, c1⟩ := HG.out k a h1
      obtain ⟨i0, i1⟩ := HI.out k a h1
      have c0 := cell_later hb c0
      have c1 := cell_later hb c1
      have hb2 := hb.trans ((below_alloc wr (.cells #[.int .i64 a.1, .int .i64 a.2] 23)).mono hb.size)
      have A1 := fun w => allowed_any a.1 w i0
      have A2 := fun w => allowed_any a.2 w i1
      have HA1 := Lib.hid A1
      have HA2 := Lib.hid A2
      have HB2 := Lib.hid hb2
      clear A1 A2 i0 i1 hb hb2
      have hklt : (k : Int) < (ls.length : Int) := by omega
      have hk0 : (0 : Int) ≤ (k : Int) := Int.natCast_nonneg _
      obtain ⟨b1, hb1⟩ : ∃ b, b = okB a.1 := ⟨_, rfl⟩
      obtain ⟨b2, hb2⟩ : ∃ b, b = okB a.2 := ⟨_, rfl⟩
      have hbad : (b1 && b2) = false → examI ls = 7 := fun h => examI_bad h1 (by rw [← hb1, ← hb2]; exact h)
      have hno' : (b1 && b2) = true → ∀ (j : Nat) (l' : Int × Int), j < k + 1 → ls[j]? = some l' → (okB l'.1 && okB l'.2) = true := by
        intro hh j l' hj hl'
        rcases Nat.lt_or_ge j k with h | h
        · exact hno j l' h hl'
        · have : j = k := by omega
          subst this
          rw [h1] at hl'
          cases hl'
          rw [← hb1, ← hb2]; exact hh
      rw [← hb1] at HA1
      rw [← hb2] at HA2
      clear hb1 hb2 hno h1
      have HBAD := Lib.hid hbad
      have HNO := Lib.hid hno'
      clear hbad hno'
      cases b1
      · have HEX := Lib.hid (HBAD.out rfl)
        clear HBAD HNO
        go_wp2_with fail
        refine (HA1.out _).mono ?_
        rintro e w1 ⟨he, rfl⟩
        subst he
        go_wp2_with fail
        go_ret
        exact ⟨by rw [HEX.out]; rfl, HB2.out⟩
      · cases b2
        · have HEX := Lib.hid (HBAD.out rfl)
          clear HBAD HNO
          go_wp2_with fail
          refine (HA1.out _).mono ?_
          rintro e w1 ⟨he, rfl⟩
          subst he
          go_wp2_with fail
          refine (HA2.out _).mono ?_
          rintro e w1 ⟨he, rfl⟩
          subst he
          go_wp2_with fail
          go_ret
          exact ⟨by rw [HEX.out]; rfl, HB2.out⟩
        · have HNO' := Lib.hid (HNO.out rfl)
          clear HBAD HNO
          go_wp2_with fail
          refine (HA1.out _).mono ?_
          rintro e w1 ⟨he, rfl⟩
          subst he
          go_wp2_with fail
          refine (HA2.out _).mono ?_
          rintro e w1 ⟨he, rfl⟩
          subst he
          go_wp2_with fail
          first
            | exact ⟨⟨k + 1, by omega, by first | rfl | go_num, HNO'.out, HB2.out⟩, by simp [intOf]; omega⟩
            | (go_roundw
               case rel => exact ⟨k + 1, by omega, by first | rfl | go_num, HNO'.out, HB2.out⟩
               case measure => simp [intOf]; omega)
    · obtain rfl : k = ls.length := by omega
      have hsh := examI_fit hno
      have HSH := Lib.hid hsh
      have HB := Lib.hid hb
      clear hsh hno hb
      go_wp2_with fail
      go_loopw [26] (fun i wr' => ExRel w ls (fun a => a.1 ≤ a.2) i wr') (fun i _ => ls.length - (intOf i).toNat)
      case atStart => exact ⟨0, Nat.zero_le _, rfl, (fun j l hj => by omega), HB.out⟩
      case round =>
        clear hk HB
        obtain ⟨k, hk, rfl, hno, hb⟩ := hrel
        by_cases hlt2 : k < ls.length
        · obtain ⟨a, h1⟩ : ∃ a, ls[k]? = some a := ⟨ls[k], List.getElem?_eq_getElem hlt2⟩
          obtain ⟨c0, c1⟩ := HG.out k a h1
          have c0 := cell_later hb c0
          have c1 := cell_later hb c1
          have hb2 := hb.trans ((below_alloc wr (.cells #[.int .i64 a.1, .int .i64 a.2] 23)).mono hb.size)
          have HB2 := Lib.hid hb2
          have hklt : (k : Int) < (ls.length : Int) := by omega
          have hk0 : (0 : Int) ≤ (k : Int) := Int.natCast_nonneg _
          clear hb hb2
          by_cases hle : a.1 ≤ a.2
          · have hno' : ∀ (j : Nat) (l' : Int × Int), j < k + 1 → ls[j]? = some l' → l'.1 ≤ l'.2 := by
              intro j l' hj hl'
              rcases Nat.lt_or_ge j k with h | h
              · exact hno j l' h hl'
              · have : j = k := by omega
                subst this
                rw [h1] at hl'
                cases hl'
                exact hle
            have HNO := Lib.hid hno'
            clear hno hno' h1
            go_wp2_with fail
            first
              | exact ⟨⟨k + 1, by omega, by first | rfl | go_num, HNO.out, HB2.out⟩, by simp [intOf]; omega⟩
              | (go_roundw
                 case rel => exact ⟨k + 1, by omega, by first | rfl | go_num, HNO.out, HB2.out⟩
                 case measure => simp [intOf]; omega)
          · have hall : ls.all (fun a => decide (a.1 ≤ a.2)) = false := by
              rw [List.all_eq_false]
              exact ⟨a, List.mem_of_getElem? h1, by simpa using hle⟩
            have hex := HSH.out
            rw [hall] at hex
            have HEX := Lib.hid hex
            have hgt : a.2 < a.1 := by omega
            clear hex hall hno h1 hle
            go_wp2_with fail
            go_ret
            exact ⟨by rw [HEX.out]; rfl, HB2.out⟩
        · obtain rfl : k = ls.length := by omega
          have hall : ls.all (fun a => decide (a.1 ≤ a.2)) = true := by
            rw [List.all_eq_true]
            intro l hl
            obtain ⟨j, hj⟩ := List.mem_iff_getElem?.1 hl
            exact decide_eq_true (hno j l (List.getElem?_eq_some_iff.1 hj).1 hj)
          have hex := HSH.out
          rw [hall] at hex
          have HEX := Lib.hid hex
          have HB := Lib.hid hb
          clear hex hall hno hb
          go_wp2_with fail
          go_ret
          exact ⟨by rw [HEX.out]; rfl, HB.out⟩

theorem examI_ok {ls : List (Int × Int)} (h : examI ls = 0) : ∀ a ∈ ls, okB a.1 = true ∧ okB a.2 = true ∧ a.1 ≤ a.2 := by
  unfold examI at h
  split at h
  · rename_i h1
    split at h
    · rename_i h2
      rw [List.all_eq_true] at h1 h2
      intro a ha
      have e1 := h1 a ha
      have e2 := h2 a ha
      rw [Bool.and_eq_true] at e1
      exact ⟨e1.1, e1.2, of_decide_eq_true e2⟩
    · cases h
  · cases h
theorem examI_of {ls : List (Int × Int)} (h : ∀ a ∈ ls, okB a.1 = true ∧ okB a.2 = true ∧ a.1 ≤ a.2) : examI ls = 0 := by
  unfold examI
  rw [if_pos, if_pos]
  · rw [List.all_eq_true]
    intro a ha
    exact decide_eq_true (h a ha).2.2
  · rw [List.all_eq_true]
    intro a ha
    rw [(h a ha).1, (h a ha).2.1]; rfl
theorem exam1 (a : Int × Int) (w : World) (ha : I64 a.1 ∧ I64 a.2) :
    Calls Try.prog 42 #[.slice (some ⟨w.heap.size, 0, none⟩) 1 1] (w.alloc (.cells #[.int .i64 a.1, .int .i64 a.2] 23)) fun e w' => e = .returned (.int .i64 (examI [a])) ∧ Below w.heap.size w w' := by
  refine (examine_any w.heap.size 1 [a] _ (by simp) ?_ ?_).mono fun e w' ⟨h1, h2⟩ => ⟨h1, (below_alloc w _).trans (h2.mono (below_alloc w _).size)⟩
  · intro i b hb
    match i, hb with
    | 0, hb => simp at hb; subst hb; exact ha
  · intro i b hb
    match i, hb with
    | 0, hb => simp at hb; subst hb; simp
theorem exam2 (a b : Int × Int) (w : World) (ha : I64 a.1 ∧ I64 a.2) (hb : I64 b.1 ∧ I64 b.2) :
    Calls Try.prog 42 #[.slice (some ⟨w.heap.size, 0, none⟩) 2 2] (w.alloc (.cells #[.int .i64 a.1, .int .i64 a.2, .int .i64 b.1, .int .i64 b.2] 23)) fun e w' => e = .returned (.int .i64 (examI [a, b])) ∧ Below w.heap.size w w' := by
  refine (examine_any w.heap.size 2 [a, b] _ (by simp) ?_ ?_).mono fun e w' ⟨h1, h2⟩ => ⟨h1, (below_alloc w _).trans (h2.mono (below_alloc w _).size)⟩
  · intro i c hc
    match i, hc with
    | 0, hc => simp at hc; subst hc; exact ha
    | 1, hc => simp at hc; subst hc; exact hb
  · intro i c hc
    match i, hc with
    | 0, hc => simp at hc; subst hc; simp
    | 1, hc => simp at hc; subst hc; simp

theorem Below.after {w W w' : World} (h : Below w.heap.size w W) (h' : Below W.heap.size W w') : Below w.heap.size w w' := h.trans (h'.mono h.size)
theorem exam1_at (a : Int × Int) (W : World) (n : Nat) (hn : W.heap.size = n) (ha : I64 a.1 ∧ I64 a.2) :
    Calls Try.prog 42 #[.slice (some ⟨n, 0, none⟩) 1 1] (W.alloc (.cells #[.int .i64 a.1, .int .i64 a.2] 23)) fun e w' => e = .returned (.int .i64 (examI [a])) ∧ Below W.heap.size W w' := by
  subst hn; exact exam1 a W ha
theorem exam2_at (a b : Int × Int) (W : World) (n : Nat) (hn : W.heap.size = n) (ha : I64 a.1 ∧ I64 a.2) (hb : I64 b.1 ∧ I64 b.2) :
    Calls Try.prog 42 #[.slice (some ⟨n, 0, none⟩) 2 2] (W.alloc (.cells #[.int .i64 a.1, .int .i64 a.2, .int .i64 b.1, .int .i64 b.2] 23)) fun e w' => e = .returned (.int .i64 (examI [a, b])) ∧ Below W.heap.size W w' := by
  subst hn; exact exam2 a b W ha hb

theorem check_any (a : Int × Int) (w : World) (ha : I64 a.1 ∧ I64 a.2) :
    Calls Try.prog 14 #[ivV a] w fun e w' => e = .returned (.int .i64 (examI [a])) ∧ Below w.heap.size w w' := by
  have HA := Lib.hid ha
  clear ha
  unfold ivV
  go_enter Try.func14, Try.ntmps14
  go_wp2_with fail
  refine (exam1_at a _ _ (by simp) HA.out).mono ?_
  rintro e w1 ⟨he, hb⟩
  subst he
  have HB := Lib.hid (Below.after (below_alloc w _) hb)
  clear hb
  go_wp2_with fail
  go_ret
  exact ⟨rfl, HB.out⟩

/-- A block of two cells that may be written. -/
structure Cell2 (w : World) (g : Nat) (x y : Value) : Prop where
  c0 : w.cell? ⟨g, 0, none⟩ = some x
  c1 : w.cell? ⟨g, 1, none⟩ = some y
  f0 : w.frozen? ⟨g, 0, none⟩ = false
  f1 : w.frozen? ⟨g, 1, none⟩ = false
  lt : g < w.heap.size
theorem Cell2.new (w : World) (x y : Value) (t : TypeId) : Cell2 (w.alloc (.cells #[x, y] t)) w.heap.size x y where
  c0 := by simp
  c1 := by simp
  f0 := by simp [World.frozen?, World.alloc, -World.alloc_eq]
  f1 := by simp [World.frozen?, World.alloc, -World.alloc_eq]
  lt := by simp
theorem Cell2.later {w w' : World} {g : Nat} {x y : Value} (h : Cell2 w g x y) (hb : Below w.heap.size w w') : Cell2 w' g x y where
  c0 := cell_later hb h.c0
  c1 := cell_later hb h.c1
  f0 := (hb.frozen (p := ⟨g, 0, none⟩) h.lt).trans h.f0
  f1 := (hb.frozen (p := ⟨g, 1, none⟩) h.lt).trans h.f1
  lt := Nat.lt_of_lt_of_le h.lt hb.size
theorem Cell2.alloc {w : World} {g : Nat} {x y : Value} (h : Cell2 w g x y) (o : Obj) : Cell2 (w.alloc o) g x y := h.later (below_alloc w o)
theorem Cell2.drewN {w : World} {g : Nat} {x y : Value} (h : Cell2 w g x y) (n : Nat) : Cell2 (w.drewN n) g x y := h.later (below_drewN w n)
theorem box3 {w w1 : World} {x y z u p q : Value} {s t r : TypeId} (hb : Below (((w.alloc (.cells #[x, y] s)).alloc (.cells #[z, u] t)).alloc (.cells #[p, q] r)).heap.size (((w.alloc (.cells #[x, y] s)).alloc (.cells #[z, u] t)).alloc (.cells #[p, q] r)) w1) :
    Cell2 w1 w.heap.size x y ∧ Cell2 w1 (w.heap.size + 1) z u ∧ Cell2 w1 (w.heap.size + 1 + 1) p q ∧ Below w.heap.size w w1 := by
  have e1 : (w.alloc (.cells #[x, y] s)).heap.size = w.heap.size + 1 := by simp
  have e2 : ((w.alloc (.cells #[x, y] s)).alloc (.cells #[z, u] t)).heap.size = w.heap.size + 1 + 1 := by simp
  have c2 := Cell2.new (w.alloc (.cells #[x, y] s)) z u t
  have c3 := Cell2.new ((w.alloc (.cells #[x, y] s)).alloc (.cells #[z, u] t)) p q r
  rw [e1] at c2
  rw [e2] at c3
  exact ⟨(((Cell2.new w x y s).alloc _).alloc _).later hb, (c2.alloc _).later hb, c3.later hb, Below.after (below_alloc3 w _ _ _) hb⟩
theorem box2 {w w1 : World} {x y p q : Value} {s r : TypeId} (hb : Below ((w.alloc (.cells #[x, y] s)).alloc (.cells #[p, q] r)).heap.size ((w.alloc (.cells #[x, y] s)).alloc (.cells #[p, q] r)) w1) :
    Cell2 w1 w.heap.size x y ∧ Cell2 w1 (w.heap.size + 1) p q ∧ Below w.heap.size w w1 := by
  have e1 : (w.alloc (.cells #[x, y] s)).heap.size = w.heap.size + 1 := by simp
  have c2 := Cell2.new (w.alloc (.cells #[x, y] s)) p q r
  rw [e1] at c2
  exact ⟨((Cell2.new w x y s).alloc _).later hb, c2.later hb, Below.after (below_alloc2 w _ _) hb⟩

theorem Cell2.setOther {w : World} {g r : Nat} {x y : Value} (h : Cell2 w g x y) (hne : g ≠ r) (i : Nat) (u : Value) : Cell2 (w.setCell ⟨r, i, none⟩ u) g x y where
  c0 := by rw [World.cell?_setCell_other _ _ _ _ (by intro e; injection e with e; exact hne e.symm)]; exact h.c0
  c1 := by rw [World.cell?_setCell_other _ _ _ _ (by intro e; injection e with e; exact hne e.symm)]; exact h.c1
  f0 := by rw [World.frozen?_setCell]; exact h.f0
  f1 := by rw [World.frozen?_setCell]; exact h.f1
  lt := by simpa [World.setCell] using h.lt
theorem Cell2.set {w : World} {g : Nat} {x y : Value} (h : Cell2 w g x y) (u v : Value) : Cell2 ((w.setCell ⟨g, 0, none⟩ u).setCell ⟨g, 1, none⟩ v) g u v where
  c0 := by
    rw [World.cell?_setCell_other _ _ _ _ (by simp)]
    exact World.cell?_setCell_same _ _ _ h.c0
  c1 := World.cell?_setCell_same _ _ _ (by rw [World.cell?_setCell_other _ _ _ _ (by simp)]; exact h.c1)
  f0 := by rw [World.frozen?_setCell, World.frozen?_setCell]; exact h.f0
  f1 := by rw [World.frozen?_setCell, World.frozen?_setCell]; exact h.f1
  lt := by simpa [World.setCell] using h.lt

/-- A call's frame: what it has boxed stays, the block of its result may turn. -/
structure Fm (w : World) (K : List (Nat × Value × Value)) (r : Nat) (w' : World) : Prop where
  keep : ∀ t ∈ K, Cell2 w' t.1 t.2.1 t.2.2
  ne : ∀ t ∈ K, t.1 ≠ r
  res : ∃ p q, Cell2 w' r p q
  bl : Below w.heap.size w w'
  hr : w.heap.size ≤ r
theorem Fm.later {w w' w'' : World} {K : List (Nat × Value × Value)} {r : Nat} (h : Fm w K r w') (hb : Below w'.heap.size w' w'') : Fm w K r w'' :=
  ⟨fun t ht => (h.keep t ht).later hb, h.ne, let ⟨p, q, e⟩ := h.res; ⟨p, q, e.later hb⟩, Below.after h.bl hb, h.hr⟩
theorem Fm.drewN {w w' : World} {K : List (Nat × Value × Value)} {r : Nat} (h : Fm w K r w') (n : Nat) : Fm w K r (w'.drewN n) := h.later (below_drewN w' n)
theorem Fm.drew {w w' : World} {K : List (Nat × Value × Value)} {r : Nat} (h : Fm w K r w') : Fm w K r w'.drew := h.later (below_drewN w' 1)
theorem Fm.alloc {w w' : World} {K : List (Nat × Value × Value)} {r : Nat} (h : Fm w K r w') (o : Obj) : Fm w K r (w'.alloc o) := h.later (below_alloc w' o)
theorem Fm.set {w w' : World} {K : List (Nat × Value × Value)} {r : Nat} (h : Fm w K r w') (u v : Value) : Fm w K r ((w'.setCell ⟨r, 0, none⟩ u).setCell ⟨r, 1, none⟩ v) :=
  ⟨fun t ht => ((h.keep t ht).setOther (h.ne t ht) 0 u).setOther (h.ne t ht) 1 v, h.ne, let ⟨_, _, e⟩ := h.res; ⟨u, v, e.set u v⟩, (h.bl.setCell (p := ⟨r, 0, none⟩) h.hr u).setCell (p := ⟨r, 1, none⟩) h.hr v, h.hr⟩
theorem Fm.k0 {w w' : World} {g : Nat} {x y : Value} {K : List (Nat × Value × Value)} {r : Nat} (h : Fm w ((g, x, y) :: K) r w') : Cell2 w' g x y := h.keep _ List.mem_cons_self
theorem Fm.k1 {w w' : World} {t : Nat × Value × Value} {g : Nat} {x y : Value} {K : List (Nat × Value × Value)} {r : Nat} (h : Fm w (t :: (g, x, y) :: K) r w') : Cell2 w' g x y := h.keep _ (List.mem_cons_of_mem _ List.mem_cons_self)
theorem Fm.of3 {w w1 : World} {x y z u p q : Value} {s t r : TypeId} (hb : Below (((w.alloc (.cells #[x, y] s)).alloc (.cells #[z, u] t)).alloc (.cells #[p, q] r)).heap.size (((w.alloc (.cells #[x, y] s)).alloc (.cells #[z, u] t)).alloc (.cells #[p, q] r)) w1) :
    Fm w [(w.heap.size, x, y), (w.heap.size + 1, z, u)] (w.heap.size + 1 + 1) w1 := by
  obtain ⟨h1, h2, h3, h4⟩ := box3 hb
  refine ⟨?_, ?_, ⟨p, q, h3⟩, h4, Nat.le_add_right _ 2⟩
  · intro t ht
    simp at ht
    rcases ht with rfl | rfl
    · exact h1
    · exact h2
  · intro t ht
    simp at ht
    rcases ht with rfl | rfl <;> simp only <;> omega
theorem Fm.of2 {w w1 : World} {x y p q : Value} {s r : TypeId} (hb : Below ((w.alloc (.cells #[x, y] s)).alloc (.cells #[p, q] r)).heap.size ((w.alloc (.cells #[x, y] s)).alloc (.cells #[p, q] r)) w1) :
    Fm w [(w.heap.size, x, y)] (w.heap.size + 1) w1 := by
  obtain ⟨h1, h3, h4⟩ := box2 hb
  refine ⟨?_, ?_, ⟨p, q, h3⟩, h4, Nat.le_add_right _ 1⟩
  · intro t ht
    simp at ht
    subst ht
    exact h1
  · intro t ht
    simp at ht
    subst ht
    simp only; omega
theorem Fm.of1 {w w1 : World} {p q : Value} {r : TypeId} (hb : Below (w.alloc (.cells #[p, q] r)).heap.size (w.alloc (.cells #[p, q] r)) w1) : Fm w [] w.heap.size w1 :=
  ⟨fun t ht => by simp at ht, fun t ht => by simp at ht, ⟨p, q, (Cell2.new w p q r).later hb⟩, Below.after (below_alloc w _) hb, Nat.le_refl _⟩
/-- A call's frame without a block for its result. -/
structure Km (w : World) (K : List (Nat × Value × Value)) (w' : World) : Prop where
  keep : ∀ t ∈ K, Cell2 w' t.1 t.2.1 t.2.2
  bl : Below w.heap.size w w'
theorem Km.later {w w' w'' : World} {K : List (Nat × Value × Value)} (h : Km w K w') (hb : Below w'.heap.size w' w'') : Km w K w'' := ⟨fun t ht => (h.keep t ht).later hb, Below.after h.bl hb⟩
theorem Km.drew {w w' : World} {K : List (Nat × Value × Value)} (h : Km w K w') : Km w K w'.drew := h.later (below_drewN w' 1)
theorem Km.k0 {w w' : World} {g : Nat} {x y : Value} {K : List (Nat × Value × Value)} (h : Km w ((g, x, y) :: K) w') : Cell2 w' g x y := h.keep _ List.mem_cons_self
theorem Km.k1 {w w' : World} {t : Nat × Value × Value} {g : Nat} {x y : Value} {K : List (Nat × Value × Value)} (h : Km w (t :: (g, x, y) :: K) w') : Cell2 w' g x y := h.keep _ (List.mem_cons_of_mem _ List.mem_cons_self)
theorem Km.new1 (w : World) (x y : Value) (t : TypeId) : Km w [(w.heap.size, x, y)] (w.alloc (.cells #[x, y] t)) :=
  ⟨fun s hs => by simp at hs; subst hs; exact Cell2.new w x y t, below_alloc w _⟩
theorem Below.set2 {w w' : World} (h : Below w.heap.size w w') (g : Nat) (hg : w.heap.size ≤ g) (u v : Value) : Below w.heap.size w ((w'.setCell ⟨g, 0, none⟩ u).setCell ⟨g, 1, none⟩ v) :=
  (h.setCell (p := ⟨g, 0, none⟩) hg u).setCell (p := ⟨g, 1, none⟩) hg v
end Go.Proofs.Ytmmgbofhbnflkaa
