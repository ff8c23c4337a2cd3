import Derived.Test.YtmmgbofhbnflkaaRRA
import Derived.RangeFuncRecord
namespace Go.Proofs.Ytmmgbofhbnflkaa
open Go.RowKit

theorem len_mul (x y : Nat) : (dg (x * y)).length ≤ (dg x).length + (dg y).length := by
  refine dg_le.2 ?_
  rw [Nat.pow_add]
  have h1 := lt_dg x
  have h2 := lt_dg y
  rcases Nat.eq_zero_or_pos y with h | h
  · rw [h, Nat.mul_zero]; exact Nat.mul_pos (pow_pos' _) (pow_pos' _)
  · exact Nat.lt_of_lt_of_le (Nat.mul_lt_mul_of_pos_right h1 h) (Nat.mul_le_mul_left _ (Nat.le_of_lt h2))
theorem heap_other {W : World} {g k i : Nat} (u : Value) (hne : g ≠ k) : (W.setCell ⟨k, i, none⟩ u).heap[g]? = W.heap[g]? := by
  simp [World.setCell, Array.getElem?_modify, hne.symm]
/-- The error of bad arguments. -/
def examW (ls : List (List Nat)) : Int := if ls.any (fun l => decide (512 < l.length)) then 3 else if ls.any (fun l => decide (l.getLast? = some 0)) then 2 else 0
theorem examW_long {ls : List (List Nat)} {k : Nat} {l : List Nat} (h : ls[k]? = some l) (hl : 512 < l.length) : examW ls = 3 := by
  unfold examW
  rw [if_pos]
  rw [List.any_eq_true]
  exact ⟨l, List.mem_of_getElem? h, decide_eq_true hl⟩
theorem examW_short {ls : List (List Nat)} (h : ∀ (k : Nat) (l : List Nat), k < ls.length → ls[k]? = some l → ¬ 512 < l.length) : examW ls = if ls.any (fun l => decide (l.getLast? = some 0)) then 2 else 0 := by
  unfold examW
  rw [if_neg]
  rw [List.any_eq_true]
  rintro ⟨l, hl, hd⟩
  obtain ⟨k, hk⟩ := List.mem_iff_getElem?.1 hl
  exact h k l (List.getElem?_eq_some_iff.1 hk).1 hk (of_decide_eq_true hd)
/-- An argument: whatever limbs. -/
def Arg (w : World) (v : Value) (l : List Nat) : Prop := Lim w w.heap.size v l ∧ l.length ≤ 100000000
theorem Arg.up {w w' : World} {v : Value} {l : List Nat} (h : Arg w v l) (hb : Below w.heap.size w w') : Arg w' v l := ⟨h.1.up hb, h.2⟩
theorem examW_ok {ls : List (List Nat)} (h : examW ls = 0) : ∀ l ∈ ls, l.length ≤ 512 ∧ l.getLast? ≠ some 0 := by
  unfold examW at h
  split at h
  · cases h
  · rename_i h1
    split at h
    · cases h
    · rename_i h2
      intro l hl
      rw [List.any_eq_true] at h1 h2
      refine ⟨?_, fun h3 => h2 ⟨l, hl, decide_eq_true h3⟩⟩
      rcases Nat.lt_or_ge 512 l.length with h4 | h4
      · exact absurd ⟨l, hl, decide_eq_true h4⟩ h1
      · exact h4
theorem Arg.num {w : World} {v : Value} {l : List Nat} {ls : List (List Nat)} (h : Arg w v l) (he : examW ls = 0) (hm : l ∈ ls) : Num w w.heap.size v (val l) ∧ (dg (val l)).length ≤ 512 ∧ dg (val l) = l := by
  obtain ⟨h1, h2⟩ := examW_ok he l hm
  have e := dg_val ⟨h.1.2, h2⟩
  refine ⟨?_, by rw [e]; exact h1, e⟩
  show Lim w w.heap.size v (dg (val l))
  rw [e]; exact h.1
/-- Block g holds a fraction. -/
def QB (W : World) (g : Nat) (neg : Bool) (vn vd : Value) : Prop := W.heap[g]? = some (.cells #[.bool neg, vn, vd] 61 (0, 0))
theorem QB.c0 {W : World} {g : Nat} {neg : Bool} {vn vd : Value} (h : QB W g neg vn vd) : W.cell? ⟨g, 0, none⟩ = some (.bool neg) := by rw [Go.Joins.cell_of_block h 0]; rfl
theorem QB.c1 {W : World} {g : Nat} {neg : Bool} {vn vd : Value} (h : QB W g neg vn vd) : W.cell? ⟨g, 1, none⟩ = some vn := by rw [Go.Joins.cell_of_block h 1]; rfl
theorem QB.c2 {W : World} {g : Nat} {neg : Bool} {vn vd : Value} (h : QB W g neg vn vd) : W.cell? ⟨g, 2, none⟩ = some vd := by rw [Go.Joins.cell_of_block h 2]; rfl
theorem QB.fr {W : World} {g : Nat} {neg : Bool} {vn vd : Value} (h : QB W g neg vn vd) (i : Nat) : W.frozen? ⟨g, i, none⟩ = false := by
  have e : W.heap[g]? = some (.cells #[.bool neg, vn, vd] 61 (0, 0)) := h
  simp [World.frozen?, e]
theorem QB.new (W : World) (neg : Bool) (vn vd : Value) : QB (W.alloc (.cells #[.bool neg, vn, vd] 61)) W.heap.size neg vn vd := World.alloc_heap_new W _
theorem QB.below {W W' : World} {B g : Nat} {neg : Bool} {vn vd : Value} (h : QB W g neg vn vd) (hb : Below B W W') (hg : g < B) : QB W' g neg vn vd := (hb.block g hg).trans h
theorem QB.lt {W : World} {g : Nat} {neg : Bool} {vn vd : Value} (h : QB W g neg vn vd) : g < W.heap.size := (Array.getElem?_eq_some_iff.1 (show W.heap[g]? = some _ from h)).1
/-- A fraction written over another. -/
def wroteQ (W : World) (g : Nat) (neg : Bool) (vn vd : Value) : World := ((W.setCell ⟨g, 0, none⟩ (.bool neg)).setCell ⟨g, 1, none⟩ vn).setCell ⟨g, 2, none⟩ vd
theorem QB.write {W : World} {g : Nat} {neg : Bool} {vn vd : Value} (h : QB W g neg vn vd) (neg' : Bool) (vn' vd' : Value) : QB (wroteQ W g neg' vn' vd') g neg' vn' vd' := by
  have e : W.heap[g]? = some (.cells #[.bool neg, vn, vd] 61 (0, 0)) := h
  show (wroteQ W g neg' vn' vd').heap[g]? = _
  simp [wroteQ, World.setCell, Array.getElem?_modify, e]
theorem wroteQ_below {w W : World} {B g : Nat} (hb : Below B w W) (hg : B ≤ g) (neg : Bool) (vn vd : Value) : Below B w (wroteQ W g neg vn vd) :=
  ((hb.setCell (p := ⟨g, 0, none⟩) hg _).setCell (p := ⟨g, 1, none⟩) hg _).setCell (p := ⟨g, 2, none⟩) hg _
/-- A fraction and an error number. -/
def ResQ (w : World) (neg : Bool) (m n : Nat) (ec : Int) (e : Ending) (w' : World) : Prop :=
  ∃ vn vd, e = .returned (.tuple #[.agg #[.bool neg, vn, vd], .int .i64 ec]) ∧ Num w' w'.heap.size vn m ∧ Num w' w'.heap.size vd n ∧ Below w.heap.size w w'
theorem cell_heap {W W' : World} {g i : Nat} (h : W'.heap[g]? = W.heap[g]?) : W'.cell? ⟨g, i, none⟩ = W.cell? ⟨g, i, none⟩ := by
  unfold World.cell?
  simp only [h]
theorem Lim.kept {W W' : World} {B : Nat} {v : Value} {l : List Nat} (h : Lim W B v l) (hk : ∀ g, g < B → TyU W g → W'.heap[g]? = W.heap[g]?) : Lim W' B v l := ⟨h.1.kept fun g hg ht _ => hk g hg ht, h.2⟩
/-- What a number holds when a fraction is written over. -/
theorem Lim.wroteQ {W : World} {B g : Nat} {v : Value} {l : List Nat} (h : Lim W B v l) {a : Bool} {u1 u2 : Value} (hq : QB W g a u1 u2) (neg' : Bool) (vn' vd' : Value) : Lim (Go.Proofs.Ytmmgbofhbnflkaa.wroteQ W g neg' vn' vd') B v l := by
  refine h.kept fun k _ ⟨cur, fr, ht⟩ => ?_
  have hne : k ≠ g := by
    rintro rfl
    have e : W.heap[k]? = some (.cells #[.bool a, u1, u2] 61 (0, 0)) := hq
    rw [e] at ht
    injection ht with ht
    injection ht with _ h2 _
    exact absurd h2 (by decide)
  unfold Go.Proofs.Ytmmgbofhbnflkaa.wroteQ
  rw [heap_other _ hne, heap_other _ hne, heap_other _ hne]
def lowW (neg : Bool) (m n : Nat) : Bool × Nat × Nat × Int :=
  if 512 < (dg (m / Nat.gcd m n)).length ∨ 512 < (dg (n / Nat.gcd m n)).length then (false, 0, 0, 3) else (neg && decide (m / Nat.gcd m n ≠ 0), m / Nat.gcd m n, n / Nat.gcd m n, 0)
def ResW (w : World) (r : Bool × Nat × Nat × Int) (e : Ending) (w' : World) : Prop := ResQ w r.1 r.2.1 r.2.2.1 r.2.2.2 e w'
structure FSum (w : World) (na : Bool) (van vad : Value) (nb : Bool) (vbn vbd : Value) (W : World) : Prop where
  qa : QB W w.heap.size na van vad
  qb : QB W (w.heap.size + 1) nb vbn vbd
  qr : QB W (w.heap.size + 1 + 1) false (.slice none 0 0) (.slice none 0 0)
  bl : Below w.heap.size w W
theorem FSum.drew {w W : World} {na nb : Bool} {van vad vbn vbd : Value} (h : FSum w na van vad nb vbn vbd W) : FSum w na van vad nb vbn vbd W.drew := ⟨h.qa, h.qb, h.qr, h.bl.drew⟩
theorem FSum.below {w W W' : World} {na nb : Bool} {van vad vbn vbd : Value} (h : FSum w na van vad nb vbn vbd W) (hb : Below W.heap.size W W') : FSum w na van vad nb vbn vbd W' :=
  ⟨h.qa.below hb h.qa.lt, h.qb.below hb h.qb.lt, h.qr.below hb h.qr.lt, h.bl.trans (hb.mono h.bl.size)⟩
theorem cell_other3 {W : World} {g k i : Nat} {v : Value} (h : W.cell? ⟨g, i, none⟩ = some v) (hne : g ≠ k) (a b c : Value) : (((W.setCell ⟨k, 0, none⟩ a).setCell ⟨k, 1, none⟩ b).setCell ⟨k, 2, none⟩ c).cell? ⟨g, i, none⟩ = some v := (cell_heap (by rw [heap_other _ hne, heap_other _ hne, heap_other _ hne])).trans h
theorem below_next {n : Nat} {w W W' : World} (hb : Below W.heap.size W W') (h : Below n w W) (hn : n = w.heap.size) : Below n w W' := h.trans (hb.mono (by rw [hn]; exact h.size))
def fsumW (na : Bool) (m1 n1 : Nat) (nb : Bool) (m2 n2 : Nat) : Bool × Nat × Nat × Int :=
  if na = nb then lowW na (m1 * n2 + m2 * n1) (n1 * n2) else if m1 * n2 < m2 * n1 then lowW nb (m2 * n1 - m1 * n2) (n1 * n2) else lowW na (m1 * n2 - m2 * n1) (n1 * n2)
def properW (neg : Bool) (ln ld : List Nat) : Bool := decide (examW [ln, ld] = 0) && !decide (val ld = 0) && !(neg && decide (val ln = 0)) && (Nat.gcd (val ln) (val ld) == 1)
/-- A fraction's limbs, whatever they are. -/
structure Fr where
  neg : Bool
  num : List Nat
  den : List Nat
def Fr.proper (f : Fr) : Bool := properW f.neg f.num f.den
def Fr.ex (f : Fr) : Int := examW [f.num, f.den]
def examQW (fs : List Fr) : Int := if fs.any (fun f => decide (f.ex = 3)) then 3 else if fs.any (fun f => !f.proper) then 2 else 0
theorem examQW_long {fs : List Fr} {k : Nat} {f : Fr} (h : fs[k]? = some f) (hl : f.ex = 3) : examQW fs = 3 := by
  unfold examQW
  rw [if_pos]
  rw [List.any_eq_true]
  exact ⟨f, List.mem_of_getElem? h, decide_eq_true hl⟩
theorem examQW_short {fs : List Fr} (h : ∀ (k : Nat) (f : Fr), k < fs.length → fs[k]? = some f → ¬ f.ex = 3) : examQW fs = if fs.any (fun f => !f.proper) then 2 else 0 := by
  unfold examQW
  rw [if_neg]
  rw [List.any_eq_true]
  rintro ⟨l, hl, hd⟩
  obtain ⟨k, hk⟩ := List.mem_iff_getElem?.1 hl
  exact h k l (List.getElem?_eq_some_iff.1 hk).1 hk (of_decide_eq_true hd)
/-- What a row of fractions holds. -/
def FrAt (W : World) (g k : Nat) (f : Fr) : Prop :=
  ∃ A n ca B m cb, W.cell? ⟨g, k * 3, none⟩ = some (.bool f.neg) ∧ W.cell? ⟨g, k * 3 + 1, none⟩ = some (.slice A n ca) ∧ W.cell? ⟨g, k * 3 + 2, none⟩ = some (.slice B m cb) ∧ Arg W (.slice A n ca) f.num ∧ Arg W (.slice B m cb) f.den
theorem FrAt.up {W W' : World} {g k : Nat} {f : Fr} (h : FrAt W g k f) (hg : g < W.heap.size) (hb : Below W.heap.size W W') : FrAt W' g k f := by
  obtain ⟨A, n, ca, B, m, cb, h1, h2, h3, h4, h5⟩ := h
  exact ⟨A, n, ca, B, m, cb, (hb.cell (p := ⟨g, k * 3, none⟩) hg).trans h1, (hb.cell (p := ⟨g, k * 3 + 1, none⟩) hg).trans h2, (hb.cell (p := ⟨g, k * 3 + 2, none⟩) hg).trans h3, h4.up hb, h5.up hb⟩
theorem properW_ok {neg : Bool} {ln ld : List Nat} (h : properW neg ln ld = true) : examW [ln, ld] = 0 ∧ val ld ≠ 0 ∧ (neg = true → val ln ≠ 0) ∧ Nat.gcd (val ln) (val ld) = 1 := by
  unfold properW at h
  simp only [Bool.and_eq_true, decide_eq_true_eq, Bool.not_eq_true', decide_eq_false_iff_not, Bool.and_eq_false_iff, beq_iff_eq] at h
  obtain ⟨⟨⟨h1, h2⟩, h3⟩, h4⟩ := h
  refine ⟨h1, h2, fun hn => ?_, h4⟩
  rcases h3 with h3 | h3
  · rw [hn] at h3; cases h3
  · exact h3
theorem examQW_ok {fs : List Fr} (h : examQW fs = 0) : ∀ f ∈ fs, f.proper = true := by
  unfold examQW at h
  split at h
  · cases h
  · split at h
    · cases h
    · rename_i h2
      intro f hf
      rw [List.any_eq_true] at h2
      cases hp : f.proper
      · exact absurd ⟨f, hf, by rw [hp]; rfl⟩ h2
      · rfl
/-- A value that is a fraction, whatever its limbs. -/
def FrV (W : World) (f : Fr) (vn vd : Value) : Prop := Arg W vn f.num ∧ Arg W vd f.den
theorem FrV.up {W W' : World} {f : Fr} {vn vd : Value} (h : FrV W f vn vd) (hb : Below W.heap.size W W') : FrV W' f vn vd := ⟨h.1.up hb, h.2.up hb⟩
theorem FrV.ok {W : World} {f : Fr} {vn vd : Value} (h : FrV W f vn vd) (hp : f.proper = true) : Num W W.heap.size vn (val f.num) ∧ Num W W.heap.size vd (val f.den) ∧ val f.den ≠ 0 ∧ (dg (val f.num)).length ≤ 512 ∧ (dg (val f.den)).length ≤ 512 := by
  obtain ⟨h1, h2, -, -⟩ := properW_ok hp
  obtain ⟨a1, a2, -⟩ := h.1.num h1 (by simp)
  obtain ⟨b1, b2, -⟩ := h.2.num h1 (by simp)
  exact ⟨a1, b1, h2, a2, b2⟩
def qaddW (f1 f2 : Fr) : Bool × Nat × Nat × Int := if examQW [f1, f2] = 0 then fsumW f1.neg (val f1.num) (val f1.den) f2.neg (val f2.num) (val f2.den) else (false, 0, 0, examQW [f1, f2])
def ResF (w : World) (r : Bool × Nat × Nat × Int) (e : Ending) (w' : World) : Prop :=
  ∃ Bn ln cn Bd ld cd, e = .returned (.tuple #[.agg #[.bool r.1, .slice Bn ln cn, .slice Bd ld cd], .int .i64 r.2.2.2]) ∧ Num w' w'.heap.size (.slice Bn ln cn) r.2.1 ∧ Num w' w'.heap.size (.slice Bd ld cd) r.2.2.1 ∧ Below w.heap.size w w'
theorem ResW.forms {w w' : World} {r : Bool × Nat × Nat × Int} {e : Ending} (h : ResW w r e w') : ResF w r e w' := by
  obtain ⟨vn, vd, he, h1, h2, h3⟩ := h
  have f1 := h1.form
  have f2 := h2.form
  obtain ⟨Bn, cn, rfl, -⟩ := f1
  obtain ⟨Bd, cd, rfl, -⟩ := f2
  exact ⟨Bn, _, cn, Bd, _, cd, he, h1, h2, h3⟩
def qfloorW (f : Fr) : Bool × Nat × Int := if examQW [f] = 0 then (f.neg, (if f.neg = true ∧ val f.num % val f.den ≠ 0 then val f.num / val f.den + 1 else val f.num / val f.den), 0) else (false, 0, examQW [f])
def ResFl (w : World) (r : Bool × Nat × Int) (e : Ending) (w' : World) : Prop := ∃ v, e = .returned (.tuple #[.bool r.1, v, .int .i64 r.2.2]) ∧ Num w' w'.heap.size v r.2.1 ∧ Below w.heap.size w w'
end Go.Proofs.Ytmmgbofhbnflkaa
namespace Go.Proofs.Ytmmgbofhbnflkaa
open Go.RowKit

def validW (l : List Nat) : Bool := decide (l.length ≤ 512) && !decide (l.getLast? = some 0)
theorem validW_ex (l : List Nat) : decide (examW [l] = 0) = validW l := by
  unfold validW examW
  by_cases h1 : 512 < l.length
  · simp [h1, Nat.not_le.2 h1]
  · by_cases h2 : l.getLast? = some 0
    · simp [h1, h2]
    · simp [h1, h2]; omega

set_option maxRecDepth 100000 in
set_option maxHeartbeats 2000000 in
theorem rValid_any (va : Value) (l : List Nat) (w : World) (ha : Arg w va l) :
    Calls Try.prog 97 #[va] w fun e w' => e = .returned (.bool (validW l)) ∧ Drawn w w' := by
  obtain ⟨A, capa, rfl, -⟩ := ha.1.form
  by_cases h1 : 512 < l.length
  · have hv : validW l = false := by unfold validW; simp [Nat.not_le.2 h1]
    rw [hv]
    have h1i : ¬ (l.length : Int) ≤ 512 := by omega
    have h1d : decide ((l.length : Int) ≤ 512) = false := decide_eq_false h1i
    clear ha hv
    generalize l.length = n at *
    go_enter Try.func97, Try.ntmps97
    go_wp2_with fail
    first
      | (go_ret; exact ⟨rfl, Drawn.refl w⟩)
      | (go_quiet (fail); go_wp2_with fail; go_ret; exact ⟨rfl, ⟨_, rfl⟩⟩)
  · have h1i : (l.length : Int) ≤ 512 := by omega
    rcases Nat.eq_zero_or_pos l.length with hz | hz
    · have hnil := List.eq_nil_of_length_eq_zero hz
      subst hnil
      clear ha
      have hv : validW [] = true := rfl
      rw [hv]
      simp only [List.length_nil]
      go_enter Try.func97, Try.ntmps97
      go_wp2_with fail
      first
        | (go_ret; exact ⟨rfl, Drawn.refl w⟩)
        | (go_quiet (fail); go_wp2_with fail; go_ret; exact ⟨rfl, ⟨_, rfl⟩⟩)
    · obtain ⟨n, hn1⟩ : ∃ n, l.length = n + 1 := ⟨l.length - 1, by omega⟩
      obtain ⟨x, hx⟩ : ∃ x, l[n]? = some x := ⟨l[n]'(by omega), List.getElem?_eq_getElem (by omega)⟩
      obtain ⟨g, o, rfl, hg, c0⟩ := ha.1.cell hx
      have hlast : l.getLast? = some x := by rw [List.getLast?_eq_getElem?, hn1, Nat.add_sub_cancel]; exact hx
      have hv : validW l = !decide (x = 0) := by unfold validW; rw [hlast]; simp; omega
      have hx1 := Lim.lt ha.1.2 hx
      rw [hv, hn1]
      rw [hn1] at h1i h1
      clear ha hx hlast hv hn1 hz
      by_cases hx0 : x = 0
      · subst hx0
        go_enter Try.func97, Try.ntmps97
        go_wp2_with fail
        first
          | (go_ret; exact ⟨rfl, Drawn.refl w⟩)
          | (go_quiet (fail); go_wp2_with fail; go_ret; exact ⟨rfl, ⟨_, rfl⟩⟩)
      · have q1 : ((x : Int) == 0) = false := by simp [hx0]
        have q2 : ((x : Int) != 0) = true := by simp [hx0]
        rw [decide_eq_false hx0]
        go_enter Try.func97, Try.ntmps97
        go_wp2_with fail
        first
          | (go_ret; exact ⟨rfl, Drawn.refl w⟩)
          | (go_quiet (fail); go_wp2_with fail; go_ret; exact ⟨rfl, ⟨_, rfl⟩⟩)
end Go.Proofs.Ytmmgbofhbnflkaa
namespace Go.Proofs.Ytmmgbofhbnflkaa
open Go.RowKit

/-! The reference's lowest fraction. -/
theorem rdiv0 {va vb : Value} {m n : Nat} {w : World} (ha : Num w w.heap.size va m) (hb : Num w w.heap.size vb n) (hla : (dg m).length ≤ 1000000) (hlb : (dg n).length ≤ 1000000) (hn : 0 < n) :
    Calls Try.prog 95 #[va, vb] w (RDiv w m n) := rdivide_any va vb m n w ha hb (by omega) (by omega) hn

set_option maxRecDepth 100000 in
set_option maxHeartbeats 4000000 in
theorem rlowest_any (neg : Bool) (va vb : Value) (m n : Nat) (w : World) (ha : Num w w.heap.size va m) (hb : Num w w.heap.size vb n) (hn : n ≠ 0) (hla : (dg m).length ≤ 1000000) (hlb : (dg n).length ≤ 1000000) :
    Calls Try.prog 75 #[.bool neg, va, vb] w (ResW w (lowW neg m n)) := by
  have hg0 : Nat.gcd m n ≠ 0 := fun h => hn (Nat.eq_zero_of_gcd_eq_zero_right h)
  have hgl : (dg (Nat.gcd m n)).length ≤ 1000000 := Nat.le_trans (dg_mono (Nat.le_of_dvd (by omega) (Nat.gcd_dvd_right m n))) hlb
  have hb0 : Below w.heap.size w (w.alloc (.cells #[.bool false, .slice none 0 0, .slice none 0 0] 61)) := (Below.refl _ w).alloc (Nat.le_refl _) _
  have hq0 := QB.new w false (.slice none 0 0) (.slice none 0 0)
  have hcm := rcommon_any va vb m n _ (Lim.up ha hb0) (Lim.up hb hb0) (by omega) (by omega)
  have hd1 : ∀ W v, Below w.heap.size w W → Num W W.heap.size v (Nat.gcd m n) → Calls Try.prog 95 #[va, v] W (fun e w' => ∃ q r, e = .returned (.tuple #[q, r]) ∧ Num w' w'.heap.size q (m / Nat.gcd m n) ∧ Below W.heap.size W w') := fun W v hW hv => (rdiv0 (Lim.up ha hW) hv hla hgl (by omega)).mono (fun e w' h => by obtain ⟨q, r, h1, h2, -, h4⟩ := h; exact ⟨q, r, h1, h2, h4⟩)
  have hd2 : ∀ W v, Below w.heap.size w W → Num W W.heap.size v (Nat.gcd m n) → Calls Try.prog 95 #[vb, v] W (fun e w' => ∃ q r, e = .returned (.tuple #[q, r]) ∧ Num w' w'.heap.size q (n / Nat.gcd m n) ∧ Below W.heap.size W w') := fun W v hW hv => (rdiv0 (Lim.up hb hW) hv hlb hgl (by omega)).mono (fun e w' h => by obtain ⟨q, r, h1, h2, -, h4⟩ := h; exact ⟨q, r, h1, h2, h4⟩)
  obtain ⟨A, capa, rfl, -⟩ := ha.form
  obtain ⟨B, capb, rfl, -⟩ := hb.form
  unfold lowW
  generalize Nat.gcd m n = g at *
  have HQ0 := Lib.hid hq0
  have HB0 := Lib.hid hb0
  have HCM := Lib.hid hcm
  have HD1 := Lib.hid hd1
  have HD2 := Lib.hid hd2
  clear hq0 hb0 hcm hd1 hd2 ha hb hla hlb hgl
  generalize (dg m).length = la at *
  generalize (dg n).length = lb at *
  generalize m / g = N1 at *
  generalize n / g = N2 at *
  obtain ⟨res, hres⟩ : ∃ res : Bool × Nat × Nat × Int, res = if 512 < (dg N1).length ∨ 512 < (dg N2).length then (false, 0, 0, 3) else (neg && decide (N1 ≠ 0), N1, N2, 0) := ⟨_, rfl⟩
  rw [← hres]
  have HRES := Lib.hid hres
  clear hres
  go_enter Try.func75, Try.ntmps75
  go_wp2_with fail
  refine HCM.out.mono ?_
  rintro e w1 ⟨vg, he, hvg, hb1⟩
  subst he
  have hb01 := HB0.out.trans (hb1.mono HB0.out.size)
  have hq1 := HQ0.out.below hb1 HQ0.out.lt
  go_wp2_with fail
  refine (HD1.out w1 vg hb01 hvg).mono ?_
  rintro e w2 ⟨q1, r1, he, hn1, hb2⟩
  subst he
  have hb02 := hb01.trans (hb2.mono hb01.size)
  have hq2 := hq1.below hb2 hq1.lt
  go_wp2_with fail
  refine (HD2.out w2 vg hb02 (Lim.up hvg hb2)).mono ?_
  rintro e w3 ⟨q2, r2, he, hn2, hb3⟩
  subst he
  have hb03 := hb02.trans (hb3.mono hb02.size)
  have hq3 := hq2.below hb3 hq2.lt
  have hn1' : Num w3 w3.heap.size q1 N1 := Lim.up hn1 hb3
  obtain ⟨A1, c1', rfl, -⟩ := hn1'.form
  obtain ⟨A2, c2', rfl, -⟩ := hn2.form
  have c0 := hq3.c0
  have c1 := hq3.c1
  have c2 := hq3.c2
  have f0 := hq3.fr 0
  have f1 := hq3.fr 1
  have f2 := hq3.fr 2
  by_cases hlong : 512 < (dg N1).length ∨ 512 < (dg N2).length
  · have hres := HRES.out
    rw [if_pos hlong] at hres
    subst hres
    have hQ := hq3.write false (.slice none 0 0) (.slice none 0 0)
    have hBl := wroteQ_below hb03 (Nat.le_refl _) false (.slice none 0 0) (.slice none 0 0)
    have HQ := Lib.hid hQ
    have HBl := Lib.hid hBl
    clear hn1 hn2 hn1' hq1 hq2 hq3 hQ hBl
    generalize (dg N1).length = l1 at *
    generalize (dg N2).length = l2 at *
    by_cases h1 : 512 < l1
    · have h1i : (512 : Int) < (l1 : Int) := by omega
      go_wp2_with fail
      change bodyPost _ _ _ Exit.ret _ (wroteQ w3 w.heap.size false (.slice none 0 0) (.slice none 0 0))
      generalize wroteQ w3 w.heap.size false (.slice none 0 0) (.slice none 0 0) = W9 at HQ HBl ⊢
      have k0 := HQ.out.c0
      have k1 := HQ.out.c1
      have k2 := HQ.out.c2
      refine bodyPost_ret (v := .tuple #[.agg #[.bool false, .slice none 0 0, .slice none 0 0], .int .i64 3]) ?_ rfl ⟨_, _, rfl, Num.zero _ _, Num.zero _ _, HBl.out⟩
      simp [results, Try.results75, k0, k1, k2, go_sem]
    · have h2 : 512 < l2 := by omega
      have h1i : ¬ (512 : Int) < (l1 : Int) := by omega
      have h2i : (512 : Int) < (l2 : Int) := by omega
      go_wp2_with fail
      change bodyPost _ _ _ Exit.ret _ (wroteQ w3 w.heap.size false (.slice none 0 0) (.slice none 0 0))
      generalize wroteQ w3 w.heap.size false (.slice none 0 0) (.slice none 0 0) = W9 at HQ HBl ⊢
      have k0 := HQ.out.c0
      have k1 := HQ.out.c1
      have k2 := HQ.out.c2
      refine bodyPost_ret (v := .tuple #[.agg #[.bool false, .slice none 0 0, .slice none 0 0], .int .i64 3]) ?_ rfl ⟨_, _, rfl, Num.zero _ _, Num.zero _ _, HBl.out⟩
      simp [results, Try.results75, k0, k1, k2, go_sem]
  · have hres := HRES.out
    rw [if_neg hlong] at hres
    subst hres
    have h1i : ¬ (512 : Int) < ((dg N1).length : Int) := by omega
    have h2i : ¬ (512 : Int) < ((dg N2).length : Int) := by omega
    have hfin : ∀ sg : Bool, QB (wroteQ w3 w.heap.size sg (.slice A1 (dg N1).length c1') (.slice A2 (dg N2).length c2')) w.heap.size sg (.slice A1 (dg N1).length c1') (.slice A2 (dg N2).length c2') ∧
        Num (wroteQ w3 w.heap.size sg (.slice A1 (dg N1).length c1') (.slice A2 (dg N2).length c2')) w3.heap.size (.slice A1 (dg N1).length c1') N1 ∧
        Num (wroteQ w3 w.heap.size sg (.slice A1 (dg N1).length c1') (.slice A2 (dg N2).length c2')) w3.heap.size (.slice A2 (dg N2).length c2') N2 ∧
        Below w.heap.size w (wroteQ w3 w.heap.size sg (.slice A1 (dg N1).length c1') (.slice A2 (dg N2).length c2')) ∧
        w3.heap.size ≤ (wroteQ w3 w.heap.size sg (.slice A1 (dg N1).length c1') (.slice A2 (dg N2).length c2')).heap.size := fun sg =>
      ⟨hq3.write sg _ _, Lim.wroteQ hn1' hq3 sg _ _, Lim.wroteQ hn2 hq3 sg _ _, wroteQ_below hb03 (Nat.le_refl _) sg _ _, by simp [wroteQ, World.setCell]⟩
    have HF := Lib.hid hfin
    have hnz : decide (N1 ≠ 0) = decide (0 < (dg N1).length) := by
      rcases Nat.eq_zero_or_pos (dg N1).length with h | h
      · rw [dg_nil.1 (List.eq_nil_of_length_eq_zero h), dg_zero]; rfl
      · have : N1 ≠ 0 := fun e => by rw [e, dg_zero] at h; simp at h
        simp [this, h]
    have HNZ := Lib.hid hnz
    clear hn1 hn2 hn1' hq1 hq2 hq3 hfin hlong hnz
    generalize (dg N1).length = l1 at *
    generalize (dg N2).length = l2 at *
    have HFN := Lib.hid (HF.out (neg && decide (0 < l1)))
    clear HF
    by_cases hz : 0 < l1
    · have t1 : (0 : Int) < (l1 : Int) := by omega
      have t0 : decide ((0 : Int) < (l1 : Int)) = true := decide_eq_true t1
      rw [decide_eq_true hz, Bool.and_true] at HFN
      have HN1 := Lib.hid (show N1 ≠ 0 from of_decide_eq_true (HNZ.out.trans (decide_eq_true hz)))
      cases neg
      all_goals
        go_wp2_with fail
        obtain ⟨g1, g2, g3, g4, g5⟩ := HFN.out
        first
          | (change bodyPost _ _ _ Exit.ret _ (wroteQ w3 w.heap.size false (.slice A1 l1 c1') (.slice A2 l2 c2'))
             generalize wroteQ w3 w.heap.size false (.slice A1 l1 c1') (.slice A2 l2 c2') = W9 at g1 g2 g3 g4 g5 ⊢)
          | (change bodyPost _ _ _ Exit.ret _ (wroteQ w3 w.heap.size true (.slice A1 l1 c1') (.slice A2 l2 c2'))
             generalize wroteQ w3 w.heap.size true (.slice A1 l1 c1') (.slice A2 l2 c2') = W9 at g1 g2 g3 g4 g5 ⊢)
        have k0 := g1.c0
        have k1 := g1.c1
        have k2 := g1.c2
        refine bodyPost_ret ?_ rfl ⟨_, _, rfl, Lim.more g2 g5, Lim.more g3 g5, g4⟩
        have hn1 := HN1.out
        simp [results, Try.results75, k0, k1, k2, hn1, go_sem]
    · have t1 : ¬ (0 : Int) < (l1 : Int) := by omega
      have t0 : decide ((0 : Int) < (l1 : Int)) = false := decide_eq_false t1
      rw [decide_eq_false hz, Bool.and_false] at HFN
      have HN1 := Lib.hid (show ¬ N1 ≠ 0 from of_decide_eq_false (HNZ.out.trans (decide_eq_false hz)))
      cases neg
      all_goals
        go_wp2_with fail
        obtain ⟨g1, g2, g3, g4, g5⟩ := HFN.out
        change bodyPost _ _ _ Exit.ret _ (wroteQ w3 w.heap.size false (.slice A1 l1 c1') (.slice A2 l2 c2'))
        generalize wroteQ w3 w.heap.size false (.slice A1 l1 c1') (.slice A2 l2 c2') = W9 at g1 g2 g3 g4 g5 ⊢
        have k0 := g1.c0
        have k1 := g1.c1
        have k2 := g1.c2
        refine bodyPost_ret ?_ rfl ⟨_, _, rfl, Lim.more g2 g5, Lim.more g3 g5, g4⟩
        have hn1 := HN1.out
        simp [results, Try.results75, k0, k1, k2, hn1, go_sem]
end Go.Proofs.Ytmmgbofhbnflkaa
