import Derived.Test.YtlababdfdjjjaaaGreatDoorNG
namespace Go.Proofs.YtlababdfdjjjaaaGreatDoor
open Go.RowKit

/-- The error of bad arguments. -/
def examW (ls : List (List Nat)) : Int := if ls.any (fun l => decide (512 < l.length)) then 3 else if ls.any (fun l => decide (l.getLast? = some 0)) then 2 else 0
theorem examW_long {ls : List (List Nat)} {k : Nat} {l : List Nat} (h : ls[k]? = some l) (hl : 512 < l.length) : examW ls = 3 := by
  unfold examW
  rw [if_pos]
  rw [List.any_eq_true]
  exact ⟨l, List.mem_of_getElem? h, decide_eq_true hl⟩
theorem examW_short {ls : List (List Nat)} (h : ∀ (k : Nat) (l : List Nat), k < ls.length → ls[k]? = some l → ¬ 512 < l.length) : examW ls = if ls.any (fun l => decide (l.getLast? = some 0)) then 2 else 0 := by
  unfold examW
  rw [if_neg]
  rw [List.any_eq_true]
  rintro ⟨l, hl, hd⟩
  obtain ⟨k, hk⟩ := List.mem_iff_getElem?.1 hl
  exact h k l (List.getElem?_eq_some_iff.1 hk).1 hk (of_decide_eq_true hd)

def ExRel (w : World) (ls : List (List Nat)) (P : List Nat → Prop) (i : Value) (wr : World) : Prop := ∃ k : Nat, k ≤ ls.length ∧ i = .int .i64 (k : Int) ∧ (∀ (j : Nat) (l : List Nat), j < k → ls[j]? = some l → ¬ P l) ∧ w = wr

set_option maxRecDepth 100000 in
set_option maxHeartbeats 2000000 in
theorem examine_any (g cap B : Nat) (vs : List Value) (ls : List (List Nat)) (w : World) (hlen : vs.length = ls.length) (hn : ls.length ≤ 1000) (hcells : ∀ (i : Nat) (v : Value), vs[i]? = some v → w.cell? ⟨g, i, none⟩ = some v)
    (hl : ∀ (i : Nat) (v : Value) (l : List Nat), vs[i]? = some v → ls[i]? = some l → Lim w B v l ∧ l.length ≤ 100000000) :
    Calls Tryz.prog 70 #[.slice (some ⟨g, 0, none⟩) ls.length cap] w fun e w' => e = .returned (.int .i64 (examW ls)) ∧ w = w' := by
  have hget : ∀ k, k < ls.length → ∃ A c l, ls[k]? = some l ∧ w.cell? ⟨g, k, none⟩ = some (.slice A l.length c) ∧ Lim w B (.slice A l.length c) l ∧ l.length ≤ 100000000 := by
    intro k hk
    have h1 : vs[k]? = some (vs[k]'(by omega)) := List.getElem?_eq_getElem (by omega)
    have h2 : ls[k]? = some (ls[k]'hk) := List.getElem?_eq_getElem hk
    obtain ⟨h3, h4⟩ := hl k _ _ h1 h2
    obtain ⟨A, c, e, -⟩ := h3.form
    have h5 := hcells k _ h1
    rw [e] at h3 h5
    exact ⟨A, c, _, h2, h5, h3, h4⟩
  have HG := Lib.hid hget
  clear hl hcells hget hlen
  go_enter Tryz.func70, Tryz.ntmps70
  go_wp2_with fail
  go_loopw [9] (fun i wr => ExRel w ls (fun l => 512 < l.length) i wr) (fun i _ => ls.length - (intOf i).toNat)
  case atStart => exact ⟨0, Nat.zero_le _, rfl, (fun j l hj => by omega), rfl⟩
  case round =>
    obtain ⟨k, hk, rfl, hno, rfl⟩ := hrel
    by_cases hlt : k < ls.length
    · obtain ⟨A, c, l, h1, h2, h3, h4⟩ := HG.out k hlt
      have hklt : (k : Int) < (ls.length : Int) := by omega
      have hk0 : (0 : Int) ≤ (k : Int) := Int.natCast_nonneg _
      by_cases hbig : 512 < l.length
      · have hex := examW_long h1 hbig
        have hbi : (512 : Int) < (l.length : Int) := by omega
        have HEX := Lib.hid hex
        clear hex h1 hno h3
        go_wp2_with fail
        go_ret
        exact ⟨by rw [HEX.out]; rfl, rfl⟩
      · have hno' : ∀ (j : Nat) (l' : List Nat), j < k + 1 → ls[j]? = some l' → ¬ 512 < l'.length := by
          intro j l' hj hl'
          rcases Nat.lt_or_ge j k with h | h
          · exact hno j l' h hl'
          · have : j = k := by omega
            subst this
            rw [h1] at hl'
            cases hl'
            exact hbig
        have hbi : ¬ (512 : Int) < (l.length : Int) := by omega
        have HNO := Lib.hid hno'
        clear hno' hno h1 h3
        go_wp2_with fail
        first
          | exact ⟨⟨k + 1, by omega, by first | rfl | go_num, HNO.out, rfl⟩, by simp [intOf]; omega⟩
          | (go_roundw
             case rel => exact ⟨k + 1, by omega, by first | rfl | go_num, HNO.out, rfl⟩
             case measure => simp [intOf]; omega)
    · obtain rfl : k = ls.length := by omega
      have hsh := examW_short hno
      have HSH := Lib.hid hsh
      clear hsh hno
      go_wp2_with fail
      go_loopw [19] (fun i wr' => ExRel w ls (fun l => l.getLast? = some 0) i wr') (fun i _ => ls.length - (intOf i).toNat)
      case atStart => exact ⟨0, Nat.zero_le _, rfl, (fun j l hj => by omega), rfl⟩
      case round =>
        clear hk
        obtain ⟨k, hk, rfl, hno, rfl⟩ := hrel
        by_cases hlt2 : k < ls.length
        · obtain ⟨A, c, l, h1, h2, h3, h4⟩ := HG.out k hlt2
          have hklt : (k : Int) < (ls.length : Int) := by omega
          have hk0 : (0 : Int) ≤ (k : Int) := Int.natCast_nonneg _
          have hnext : l.getLast? ≠ some 0 → ∀ (j : Nat) (l' : List Nat), j < k + 1 → ls[j]? = some l' → ¬ l'.getLast? = some 0 := by
            intro hne j l' hj hl'
            rcases Nat.lt_or_ge j k with h | h
            · exact hno j l' h hl'
            · have : j = k := by omega
              subst this
              rw [h1] at hl'
              cases hl'
              exact hne
          rcases Nat.eq_zero_or_pos l.length with hz | hz
          · have hnil := List.eq_nil_of_length_eq_zero hz
            have HNO := Lib.hid (hnext (by rw [hnil]; simp))
            rw [hz] at h2
            clear hnext hno h1 h3 hnil hz h4
            go_wp2_with fail
            first
              | exact ⟨⟨k + 1, by omega, by first | rfl | go_num, HNO.out, rfl⟩, by simp [intOf]; omega⟩
              | (go_roundw
                 case rel => exact ⟨k + 1, by omega, by first | rfl | go_num, HNO.out, rfl⟩
                 case measure => simp [intOf]; omega)
          · obtain ⟨n, hn1⟩ : ∃ n, l.length = n + 1 := ⟨l.length - 1, by omega⟩
            obtain ⟨x, hx⟩ : ∃ x, l[n]? = some x := ⟨l[n]'(by omega), List.getElem?_eq_getElem (by omega)⟩
            obtain ⟨g', o', rfl, hg', c0⟩ := h3.cell hx
            have hlast : l.getLast? = some x := by rw [List.getLast?_eq_getElem?, hn1, Nat.add_sub_cancel]; exact hx
            have hx1 := Lim.lt h3.2 hx
            rw [hn1] at h2
            by_cases hx0 : x = 0
            · subst hx0
              have hany : ls.any (fun l => decide (l.getLast? = some 0)) = true := by
                rw [List.any_eq_true]
                exact ⟨l, List.mem_of_getElem? h1, decide_eq_true hlast⟩
              have hex := HSH.out
              rw [hany] at hex
              have HEX := Lib.hid hex
              clear hex hany hnext hno h1 h3 hx hlast
              go_wp2_with fail
              go_ret
              exact ⟨by rw [HEX.out]; rfl, rfl⟩
            · have HNO := Lib.hid (hnext (by rw [hlast]; intro h; injection h with h; exact hx0 h))
              have q1 : ((x : Int) == 0) = false := by simp [hx0]
              clear hnext hno h1 h3 hx hlast
              go_wp2_with fail
              first
                | exact ⟨⟨k + 1, by omega, by first | rfl | go_num, HNO.out, rfl⟩, by simp [intOf]; omega⟩
                | (go_roundw
                   case rel => exact ⟨k + 1, by omega, by first | rfl | go_num, HNO.out, rfl⟩
                   case measure => simp [intOf]; omega)
        · obtain rfl : k = ls.length := by omega
          have hany : ls.any (fun l => decide (l.getLast? = some 0)) = false := by
            rw [List.any_eq_false]
            intro l hl
            obtain ⟨j, hj⟩ := List.mem_iff_getElem?.1 hl
            have := hno j l (List.getElem?_eq_some_iff.1 hj).1 hj
            simpa using this
          have hex := HSH.out
          rw [hany] at hex
          have HEX := Lib.hid hex
          clear hex hany hno
          go_wp2_with fail
          go_ret
          exact ⟨by rw [HEX.out]; rfl, rfl⟩
end Go.Proofs.YtlababdfdjjjaaaGreatDoor
namespace Go.Proofs.YtlababdfdjjjaaaGreatDoor
open Go.RowKit

/-- An argument: whatever limbs. -/
def Arg (w : World) (v : Value) (l : List Nat) : Prop := Lim w w.heap.size v l ∧ l.length ≤ 100000000
theorem Arg.up {w w' : World} {v : Value} {l : List Nat} (h : Arg w v l) (hb : Below w.heap.size w w') : Arg w' v l := ⟨h.1.up hb, h.2⟩
theorem exam1 (v : Value) (l : List Nat) (w : World) (h : Arg w v l) :
    Calls Tryz.prog 70 #[.slice (some ⟨w.heap.size, 0, none⟩) 1 1] (w.alloc (.cells #[v] 24)) fun e w' => e = .returned (.int .i64 (examW [l])) ∧ w.alloc (.cells #[v] 24) = w' := by
  have hb : Below w.heap.size w (w.alloc (.cells #[v] 24)) := (Below.refl _ w).alloc (Nat.le_refl _) _
  refine examine_any w.heap.size 1 w.heap.size [v] [l] _ rfl (by simp) ?_ ?_
  · intro i u hu
    rw [Go.Joins.cell_of_block (World.alloc_heap_new w _) i]
    simpa using hu
  · intro i u l' hu hl'
    match i, hu, hl' with
    | 0, hu, hl' =>
      simp at hu hl'
      subst hu hl'
      exact ⟨h.1.below hb, h.2⟩
theorem exam2 (va vb : Value) (la lb : List Nat) (w : World) (ha : Arg w va la) (hb : Arg w vb lb) :
    Calls Tryz.prog 70 #[.slice (some ⟨w.heap.size, 0, none⟩) 2 2] (w.alloc (.cells #[va, vb] 24)) fun e w' => e = .returned (.int .i64 (examW [la, lb])) ∧ w.alloc (.cells #[va, vb] 24) = w' := by
  have hbl : Below w.heap.size w (w.alloc (.cells #[va, vb] 24)) := (Below.refl _ w).alloc (Nat.le_refl _) _
  refine examine_any w.heap.size 2 w.heap.size [va, vb] [la, lb] _ rfl (by simp) ?_ ?_
  · intro i u hu
    rw [Go.Joins.cell_of_block (World.alloc_heap_new w _) i]
    simpa using hu
  · intro i u l' hu hl'
    match i, hu, hl' with
    | 0, hu, hl' =>
      simp at hu hl'
      subst hu hl'
      exact ⟨ha.1.below hbl, ha.2⟩
    | 1, hu, hl' =>
      simp at hu hl'
      subst hu hl'
      exact ⟨hb.1.below hbl, hb.2⟩
theorem examW_ok {ls : List (List Nat)} (h : examW ls = 0) : ∀ l ∈ ls, l.length ≤ 512 ∧ l.getLast? ≠ some 0 := by
  unfold examW at h
  split at h
  · cases h
  · rename_i h1
    split at h
    · cases h
    · rename_i h2
      intro l hl
      rw [List.any_eq_true] at h1 h2
      refine ⟨?_, fun h3 => h2 ⟨l, hl, decide_eq_true h3⟩⟩
      rcases Nat.lt_or_ge 512 l.length with h4 | h4
      · exact absurd ⟨l, hl, decide_eq_true h4⟩ h1
      · exact h4
theorem Arg.num {w : World} {v : Value} {l : List Nat} {ls : List (List Nat)} (h : Arg w v l) (he : examW ls = 0) (hm : l ∈ ls) : Num w w.heap.size v (val l) ∧ (dg (val l)).length ≤ 512 ∧ dg (val l) = l := by
  obtain ⟨h1, h2⟩ := examW_ok he l hm
  have e := dg_val ⟨h.1.2, h2⟩
  refine ⟨?_, by rw [e]; exact h1, e⟩
  show Lim w w.heap.size v (dg (val l))
  rw [e]; exact h.1
/-- A number and an error number. -/
def Res (w : World) (r : Nat × Int) (e : Ending) (w' : World) : Prop := ∃ v, e = .returned (.tuple #[v, .int .i64 r.2]) ∧ Num w' w'.heap.size v r.1 ∧ Below w.heap.size w w'
def fitW (n : Nat) : Nat × Int := (if 512 < (dg n).length then 0 else n, if 512 < (dg n).length then 3 else 0)
def addW (la lb : List Nat) : Nat × Int := if examW [la, lb] = 0 then fitW (val la + val lb) else (0, examW [la, lb])
def mulW (la lb : List Nat) : Nat × Int := if examW [la, lb] = 0 then fitW (val la * val lb) else (0, examW [la, lb])
def subW (la lb : List Nat) : Nat × Int := if examW [la, lb] = 0 then (if val la < val lb then (0, 7) else (val la - val lb, 0)) else (0, examW [la, lb])
def gcdW (la lb : List Nat) : Nat × Int := if examW [la, lb] = 0 then (Nat.gcd (val la) (val lb), 0) else (0, examW [la, lb])

set_option maxRecDepth 100000 in
set_option maxHeartbeats 2000000 in
theorem Add_any (va vb : Value) (la lb : List Nat) (w : World) (ha : Arg w va la) (hb : Arg w vb lb) : Calls Tryz.prog 34 #[va, vb] w (Res w (addW la lb)) := by
  have hex := exam2 va vb la lb w ha hb
  have hbl : Below w.heap.size w (w.alloc (.cells #[va, vb] 24)) := (Below.refl _ w).alloc (Nat.le_refl _) _
  have ha1 := ha.up hbl
  have hb1 := hb.up hbl
  obtain ⟨A, capa, rfl, -⟩ := ha.1.form
  obtain ⟨B, capb, rfl, -⟩ := hb.1.form
  unfold addW
  by_cases h : examW [la, lb] = 0
  · obtain ⟨n1, n2, n3⟩ := ha1.num h (by simp)
    obtain ⟨m1, m2, m3⟩ := hb1.num h (by simp)
    have hs := sum_any _ _ _ _ _ n1 m1 (by omega) (by omega)
    rw [val_dg, val_dg] at hs
    have hl : (dg (val la + val lb)).length ≤ 1000 := by
      have h1 := n2
      have h2 := m2
      obtain ⟨N, hN⟩ : ∃ N, N = 512 := ⟨_, rfl⟩
      rw [← hN] at h1 h2
      have h3 := dg_le.1 h1
      have h4 := dg_le.1 h2
      have h5 : LB ^ N * 2 ≤ LB ^ (N + 1) := by
        have p1 : LB ^ (N + 1) = LB ^ N * LB := Nat.pow_succ ..
        rw [p1]; exact Nat.mul_le_mul_left _ LB_two
      have := (dg_le (n := val la + val lb) (k := N + 1)).2 (by omega)
      omega
    have hwi : ∀ W v, Num W W.heap.size v (val la + val lb) → _ := fun W v hv => within_any v (val la + val lb) W hv (by omega)
    rw [if_pos h]
    rw [h] at hex
    unfold fitW Res
    generalize (if 512 < (dg (val la + val lb)).length then (3 : Int) else 0) = ec at *
    generalize (if 512 < (dg (val la + val lb)).length then 0 else val la + val lb) = rn at *
    have HEX := Lib.hid hex
    have HS := Lib.hid hs
    have HWI := Lib.hid hwi
    clear hex hs hwi ha hb ha1 hb1 n1 n2 n3 m1 m2 m3 hl h
    generalize la.length = l1 at *
    generalize lb.length = l2 at *
    go_enter Tryz.func34, Tryz.ntmps34
    go_wp2_with fail
    refine HEX.out.mono ?_
    rintro e w1 ⟨rfl, rfl⟩
    go_wp2_with fail
    refine HS.out.mono ?_
    rintro e w2 ⟨v2, he, hn2, hb2⟩
    subst he
    go_wp2_with fail
    refine (HWI.out w2 v2 hn2).mono ?_
    rintro e w3 ⟨v3, he, hn3, rfl⟩
    subst he
    go_wp2_with fail
    go_ret2
    exact ⟨v3, rfl, hn3, hbl.trans (hb2.mono hbl.size)⟩
  · rw [if_neg h]
    generalize examW [la, lb] = ec at *
    have q1 : (ec == 0) = false := by simp [h]
    have q2 : (ec != 0) = true := by simp [h]
    have HEX := Lib.hid hex
    clear hex ha hb ha1 hb1 h
    generalize la.length = l1 at *
    generalize lb.length = l2 at *
    go_enter Tryz.func34, Tryz.ntmps34
    go_wp2_with fail
    refine HEX.out.mono ?_
    rintro e w1 ⟨rfl, rfl⟩
    go_wp2_with fail
    go_ret2
    exact ⟨.slice none 0 0, rfl, Num.zero _ _, hbl⟩
end Go.Proofs.YtlababdfdjjjaaaGreatDoor
