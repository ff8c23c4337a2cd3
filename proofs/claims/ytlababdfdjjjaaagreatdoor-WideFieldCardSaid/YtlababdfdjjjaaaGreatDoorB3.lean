import Derived.Test.YtlababdfdjjjaaaGreatDoorB0
namespace Go.Proofs.YtlababdfdjjjaaaGreatDoor
open Go.RowKit

/-! Fractions, in the form that the laws want. -/
theorem small_low (neg : Bool) (m n : Nat) : (dg (lowW neg m n).2.1).length ≤ 1000 ∧ (dg (lowW neg m n).2.2.1).length ≤ 1000 := by
  unfold lowW
  by_cases h : 512 < (dg (m / Nat.gcd m n)).length ∨ 512 < (dg (n / Nat.gcd m n)).length
  · rw [if_pos h]; exact ⟨small_zero, small_zero⟩
  · rw [if_neg h]; exact ⟨show (dg (m / Nat.gcd m n)).length ≤ 1000 by omega, show (dg (n / Nat.gcd m n)).length ≤ 1000 by omega⟩
theorem small_fsum (a : Bool) (m1 n1 : Nat) (b : Bool) (m2 n2 : Nat) : (dg (fsumW a m1 n1 b m2 n2).2.1).length ≤ 1000 ∧ (dg (fsumW a m1 n1 b m2 n2).2.2.1).length ≤ 1000 := by
  unfold fsumW
  by_cases h : a = b
  · rw [if_pos h]; exact small_low _ _ _
  · rw [if_neg h]
    by_cases h2 : m1 * n2 < m2 * n1
    · rw [if_pos h2]; exact small_low _ _ _
    · rw [if_neg h2]; exact small_low _ _ _
theorem small_qadd (f g : Fr) : (dg (qaddW f g).2.1).length ≤ 1000 ∧ (dg (qaddW f g).2.2.1).length ≤ 1000 := by
  unfold qaddW
  by_cases h : examQW [f, g] = 0
  · rw [if_pos h]; exact small_fsum _ _ _ _ _ _
  · rw [if_neg h]; exact ⟨small_zero, small_zero⟩
theorem small_qsub (f g : Fr) : (dg (qsubW f g).2.1).length ≤ 1000 ∧ (dg (qsubW f g).2.2.1).length ≤ 1000 := by
  unfold qsubW
  by_cases h : examQW [f, g] = 0
  · rw [if_pos h]; exact small_fsum _ _ _ _ _ _
  · rw [if_neg h]; exact ⟨small_zero, small_zero⟩
theorem small_qmul (f g : Fr) : (dg (qmulW f g).2.1).length ≤ 1000 ∧ (dg (qmulW f g).2.2.1).length ≤ 1000 := by
  unfold qmulW
  by_cases h : examQW [f, g] = 0
  · rw [if_pos h]; exact small_low _ _ _
  · rw [if_neg h]; exact ⟨small_zero, small_zero⟩
theorem small_qdiv (f g : Fr) : (dg (qdivW f g).2.1).length ≤ 1000 ∧ (dg (qdivW f g).2.2.1).length ≤ 1000 := by
  unfold qdivW
  by_cases h : examQW [f, g] = 0
  · rw [if_pos h]
    by_cases h2 : val g.num = 0
    · rw [if_pos h2]; exact ⟨small_zero, small_zero⟩
    · rw [if_neg h2]; exact small_low _ _ _
  · rw [if_neg h]; exact ⟨small_zero, small_zero⟩
theorem small_ratio (neg : Bool) (la lb : List Nat) : (dg (ratioW neg la lb).2.1).length ≤ 1000 ∧ (dg (ratioW neg la lb).2.2.1).length ≤ 1000 := by
  unfold ratioW
  by_cases h : examW [la, lb] = 0
  · rw [if_pos h]
    by_cases h2 : val lb = 0
    · rw [if_pos h2]; exact ⟨small_zero, small_zero⟩
    · rw [if_neg h2]; exact small_low _ _ _
  · rw [if_neg h]; exact ⟨small_zero, small_zero⟩
theorem small_part (neg : Bool) (m n j : Nat) : (dg (powPart neg m n j).2.1).length ≤ 1000 ∧ (dg (powPart neg m n j).2.2.1).length ≤ 1000 := by
  unfold powPart
  by_cases h : n = 0
  · rw [if_pos h]; exact ⟨small_zero, small_zero⟩
  · rw [if_neg h]
    by_cases h2 : 512 < (dg (m ^ j)).length ∨ 512 < (dg (n ^ j)).length
    · rw [if_pos h2]; exact ⟨small_zero, small_zero⟩
    · rw [if_neg h2]; exact ⟨show (dg (m ^ j)).length ≤ 1000 by omega, show (dg (n ^ j)).length ≤ 1000 by omega⟩
theorem small_qpow (f : Fr) (k : Int) : (dg (qpowW f k).2.1).length ≤ 1000 ∧ (dg (qpowW f k).2.2.1).length ≤ 1000 := by
  unfold qpowW
  by_cases h : examQW [f] = 0
  · rw [if_pos h]
    by_cases h2 : k < -2000 ∨ 2000 < k
    · rw [if_pos h2]; exact ⟨small_zero, small_zero⟩
    · rw [if_neg h2]
      by_cases h3 : k < 0
      · rw [if_pos h3]; exact small_part _ _ _ _
      · rw [if_neg h3]; exact small_part _ _ _ _
  · rw [if_neg h]; exact ⟨small_zero, small_zero⟩
/-- A fraction and an error number, with their limbs. -/
def QPost (W : World) (sg : Bool) (Ln Ld : List Nat) (ec : Int) (e : Ending) (w' : World) : Prop :=
  ∃ A l c B m d, e = .returned (.tuple #[.agg #[.bool sg, .slice A l c, .slice B m d], .int .i64 ec]) ∧ Arg w' (.slice A l c) Ln ∧ Arg w' (.slice B m d) Ld ∧ Below W.heap.size W w'
theorem qpost {f : FuncId} {args : Array Value} {W : World} {r : Bool × Nat × Nat × Int} (h : Calls Tryz.prog f args W (ResW W r)) (hs : (dg r.2.1).length ≤ 1000 ∧ (dg r.2.2.1).length ≤ 1000) : Calls Tryz.prog f args W (QPost W r.1 (dg r.2.1) (dg r.2.2.1) r.2.2.2) := by
  refine (h.mono fun e w' h => h.forms).mono ?_
  rintro e w' ⟨A, l, c, B, m, d, he, h1, h2, hb⟩
  exact ⟨A, l, c, B, m, d, he, num_arg h1 _ rfl hs.1, num_arg h2 _ rfl hs.2, hb⟩
/-- What a number holds when a fraction is written over. -/
theorem Arg.rewrote {W : World} {v : Value} {l : List Nat} {g : Nat} {neg0 : Bool} {A B : Option Addr} {a b c d : Nat} (h : Arg W v l) (hq : QB W g neg0 (.slice A a b) (.slice B c d)) (neg' : Bool) (vn' vd' : Value) : Arg (Go.Proofs.YtlababdfdjjjaaaGreatDoor.wroteQ W g neg' vn' vd') v l := by
  obtain ⟨⟨⟨A1, cap, e, hc, hh⟩, ho⟩, hl⟩ := h
  have hsz : (Go.Proofs.YtlababdfdjjjaaaGreatDoor.wroteQ W g neg' vn' vd').heap.size = W.heap.size := by simp [Go.Proofs.YtlababdfdjjjaaaGreatDoor.wroteQ, World.setCell]
  refine ⟨⟨⟨A1, cap, e, hc, fun hne => ?_⟩, ho⟩, hl⟩
  obtain ⟨g', o, ea, hg, hx⟩ := hh hne
  refine ⟨g', o, ea, by rw [hsz]; exact hg, fun k x hk => ?_⟩
  have h1 := hx k x hk
  by_cases hgg : g' = g
  · subst hgg
    exfalso
    rw [List.getElem?_map] at hk
    obtain ⟨y, -, rfl⟩ := Option.map_eq_some_iff.1 hk
    rw [Go.Joins.cell_of_block hq] at h1
    match hok : o + k, h1 with
    | 0, h1 => simp [u32] at h1
    | 1, h1 => simp [u32] at h1
    | 2, h1 => simp [u32] at h1
    | j + 3, h1 => simp at h1
  · rw [← h1]
    refine cell_heap ?_
    unfold Go.Proofs.YtlababdfdjjjaaaGreatDoor.wroteQ
    rw [heap_other _ hgg, heap_other _ hgg, heap_other _ hgg]
/-- Block g holds the law's argument. -/
def QX (W : World) (g : Nat) (s1 : Bool) (n1 d1 : Value) (s2 : Bool) (n2 d2 : Value) (k : Int) : Prop := W.heap[g]? = some (.cells #[.bool s1, n1, d1, .bool s2, n2, d2, .int .i64 k] 50 (0, 0))
section
variable {W W' : World} {g : Nat} {s1 s2 : Bool} {n1 d1 n2 d2 : Value} {k : Int}
theorem QX.c0 (h : QX W g s1 n1 d1 s2 n2 d2 k) : W.cell? ⟨g, 0, none⟩ = some (.bool s1) := by rw [Go.Joins.cell_of_block h 0]; rfl
theorem QX.c1 (h : QX W g s1 n1 d1 s2 n2 d2 k) : W.cell? ⟨g, 1, none⟩ = some n1 := by rw [Go.Joins.cell_of_block h 1]; rfl
theorem QX.c2 (h : QX W g s1 n1 d1 s2 n2 d2 k) : W.cell? ⟨g, 2, none⟩ = some d1 := by rw [Go.Joins.cell_of_block h 2]; rfl
theorem QX.c3 (h : QX W g s1 n1 d1 s2 n2 d2 k) : W.cell? ⟨g, 3, none⟩ = some (.bool s2) := by rw [Go.Joins.cell_of_block h 3]; rfl
theorem QX.c4 (h : QX W g s1 n1 d1 s2 n2 d2 k) : W.cell? ⟨g, 4, none⟩ = some n2 := by rw [Go.Joins.cell_of_block h 4]; rfl
theorem QX.c5 (h : QX W g s1 n1 d1 s2 n2 d2 k) : W.cell? ⟨g, 5, none⟩ = some d2 := by rw [Go.Joins.cell_of_block h 5]; rfl
theorem QX.c6 (h : QX W g s1 n1 d1 s2 n2 d2 k) : W.cell? ⟨g, 6, none⟩ = some (.int .i64 k) := by rw [Go.Joins.cell_of_block h 6]; rfl
theorem QX.lt (h : QX W g s1 n1 d1 s2 n2 d2 k) : g < W.heap.size := (Array.getElem?_eq_some_iff.1 (show W.heap[g]? = some _ from h)).1
theorem QX.below (h : QX W g s1 n1 d1 s2 n2 d2 k) (hb : Below W.heap.size W W') : QX W' g s1 n1 d1 s2 n2 d2 k := (hb.block g h.lt).trans h
theorem QX.wroteOther (h : QX W g s1 n1 d1 s2 n2 d2 k) {k' : Nat} {neg' : Bool} {vn' vd' : Value} (hne : g ≠ k') : QX (wroteQ W k' neg' vn' vd') g s1 n1 d1 s2 n2 d2 k := by
  have e : W.heap[g]? = some (.cells #[.bool s1, n1, d1, .bool s2, n2, d2, .int .i64 k] 50 (0, 0)) := h
  show (wroteQ W k' neg' vn' vd').heap[g]? = _
  unfold wroteQ
  rw [heap_other _ hne, heap_other _ hne, heap_other _ hne]; exact e
theorem QX.new (W : World) : QX (W.alloc (.cells #[.bool s1, n1, d1, .bool s2, n2, d2, .int .i64 k] 50)) W.heap.size s1 n1 d1 s2 n2 d2 k := World.alloc_heap_new W _
end
/-- What much says of a fraction; if it is not much, its numbers are. -/
def MuchOk (w : World) (A B : Option Addr) (n ca m cb : Nat) (ln ld : List Nat) : Prop := ∃ b : Bool, (∀ (s : Bool) (W' : World), Calls Tryz.prog 48 #[.agg #[.bool s, .slice A n ca, .slice B m cb]] W' fun e w' => e = .returned (.bool b) ∧ Below W'.heap.size W' w') ∧ (b = false → Arg w (.slice A n ca) ln ∧ Arg w (.slice B m cb) ld)
set_option maxRecDepth 100000 in
set_option maxHeartbeats 4000000 in
theorem much_ok (A B : Option Addr) (n ca m cb : Nat) (ln ld : List Nat) (w : World) (hm1 : n ≤ maxLen) (hm2 : m ≤ maxLen) (h1 : n ≤ 100000000 → Arg w (.slice A n ca) ln) (h2 : m ≤ 100000000 → Arg w (.slice B m cb) ld) : MuchOk w A B n ca m cb ln ld := by
  obtain ⟨N, hN⟩ : ∃ N : Nat, max (n : Int) (m : Int) = (N : Int) := ⟨max n m, by omega⟩
  refine ⟨decide (3 < N ∧ N ≤ 512 ∨ 520 < N), fun s W' => ?_, fun hb => ?_⟩
  · have p : N ≤ 3 ∨ (3 < N ∧ N ≤ 512) ∨ (512 < N ∧ N ≤ 520) ∨ 520 < N := by omega
    have c := (QB.new W' s (.slice A n ca) (.slice B m cb))
    have c1 := c.c1
    have c2 := c.c2
    have hbl := al_below W' (.cells #[.bool s, .slice A n ca, .slice B m cb] 48)
    have HBL := Lib.hid hbl
    clear h1 h2 hbl c hm1 hm2
    rcases p with p | p | p | p
    · rw [show decide (3 < N ∧ N ≤ 512 ∨ 520 < N) = false from decide_eq_false (by omega)]
      have t1 : ¬ (3 : Int) < (N : Int) := by omega
      have t2 : (N : Int) ≤ 512 := by omega
      have t3 : ¬ (520 : Int) < (N : Int) := by omega
      go_enter Tryz.func48, Tryz.ntmps48
      go_wp2_with fail
      go_ret
      exact ⟨rfl, HBL.out⟩
    · rw [show decide (3 < N ∧ N ≤ 512 ∨ 520 < N) = true from decide_eq_true (by omega)]
      have t1 : (3 : Int) < (N : Int) := by omega
      have t2 : (N : Int) ≤ 512 := by omega
      have t3 : ¬ (520 : Int) < (N : Int) := by omega
      go_enter Tryz.func48, Tryz.ntmps48
      go_wp2_with fail
      go_ret
      exact ⟨rfl, HBL.out⟩
    · rw [show decide (3 < N ∧ N ≤ 512 ∨ 520 < N) = false from decide_eq_false (by omega)]
      have t1 : (3 : Int) < (N : Int) := by omega
      have t2 : ¬ (N : Int) ≤ 512 := by omega
      have t3 : ¬ (520 : Int) < (N : Int) := by omega
      go_enter Tryz.func48, Tryz.ntmps48
      go_wp2_with fail
      go_ret
      exact ⟨rfl, HBL.out⟩
    · rw [show decide (3 < N ∧ N ≤ 512 ∨ 520 < N) = true from decide_eq_true (by omega)]
      have t1 : (3 : Int) < (N : Int) := by omega
      have t2 : ¬ (N : Int) ≤ 512 := by omega
      have t3 : (520 : Int) < (N : Int) := by omega
      go_enter Tryz.func48, Tryz.ntmps48
      go_wp2_with fail
      go_ret
      exact ⟨rfl, HBL.out⟩
  · have hb' := of_decide_eq_false hb
    exact ⟨h1 (by omega), h2 (by omega)⟩
end Go.Proofs.YtlababdfdjjjaaaGreatDoor
