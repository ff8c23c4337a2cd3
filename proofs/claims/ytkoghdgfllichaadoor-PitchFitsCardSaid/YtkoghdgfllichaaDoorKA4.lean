import Derived.Test.YtkoghdgfllichaaDoorKAB
import Derived.Test.YtkoghdgfllichaaDoorREA
import Derived.Laws.ShiftsVarLaws
namespace Go.Proofs.YtkoghdgfllichaaDoor
open Go.RowKit

/-- v holds these terms. -/
def TmC (w : World) (B : Nat) (v : Value) (l : List (Nat × Int)) : Prop :=
  ∃ A cap, v = .slice A l.length cap ∧ l.length ≤ cap ∧ (l ≠ [] → ∃ g o, A = some ⟨g, o, none⟩ ∧ g < B ∧ ∀ i x, l[i]? = some x → w.cell? ⟨g, o + i * 2, none⟩ = some (.int .i64 (x.1 : Int)) ∧ w.cell? ⟨g, o + i * 2 + 1, none⟩ = some (.int .i64 x.2))
theorem TmC.keep {w w' : World} {B : Nat} {v : Value} {l : List (Nat × Int)} (h : TmC w B v l) (hb : Below B w w') : TmC w' B v l := by
  obtain ⟨A, cap, e, hc, h⟩ := h
  refine ⟨A, cap, e, hc, fun hne => ?_⟩
  obtain ⟨g, o, e2, hg, hx⟩ := h hne
  exact ⟨g, o, e2, hg, fun i x hi => ⟨(hb.cell (p := ⟨g, _, none⟩) hg).trans (hx i x hi).1, (hb.cell (p := ⟨g, _, none⟩) hg).trans (hx i x hi).2⟩⟩
theorem bitLen_log2 {n : Nat} (h0 : n ≠ 0) (h : n < 18446744073709551616) : Lib.bitLen n = Nat.log2 n + 1 := by
  have aux : ∀ f n, n ≠ 0 → n < 2 ^ f → Lib.bitLenAux f n = Nat.log2 n + 1 := by
    intro f
    induction f with
    | zero => intro n h0 h; simp at h; omega
    | succ f ih =>
      intro n h0 h
      rw [Lib.bitLenAux, if_neg h0]
      by_cases h2 : n < 2
      · have : n = 1 := by omega
        subst this
        have e : Lib.bitLenAux f (1 / 2) = 0 := by
          cases f with
          | zero => rfl
          | succ f => rw [Lib.bitLenAux, if_pos (by decide)]
        rw [e]; rfl
      · rw [Nat.pow_succ] at h
        rw [ih (n / 2) (by omega) (by omega)]
        conv => rhs; rw [Nat.log2_def, if_pos (by omega)]
        omega
  exact aux 64 n h0 (by simpa using h)
theorem Tryd.infoWW : (Tryd.prog.info? 146).map (fun i => (i.zero, i.size, i.bytes)) = some (some (.slice none 0 0), 1, 24) := by kernel_rfl
theorem mkWW (n : Nat) (hn : n ≤ 1000000) (w : World) :
    (Instr.makeSlice 143 (.int .i64 (n : Int)) (.int .i64 (n : Int))).run Tryd.prog w = .ok (.slice (some ⟨w.heap.size, 0, none⟩) n n) (w.alloc (.cells (List.replicate n (Value.slice none 0 0)).toArray 146)) := by
  obtain ⟨i0, hi, hz0, hz1, hz2⟩ := info_parts Tryd.infoWW
  have h := run_make (P := Tryd.prog) w 143 146 i0 _ Tryd.underlying143 hi hz0 .i64 .i64 n n (by omega) (by omega) (by rw [hz2]; omega) (by omega)
  simp only [Int.toNat_natCast] at h
  rw [hz1, Nat.mul_one] at h
  have e : madeCells (Value.slice none 0 0).cells n = (List.replicate n (Value.slice none 0 0)).toArray := by
    apply Array.toList_inj.1
    rw [show (Value.slice none 0 0).cells = #[Value.slice none 0 0] from rfl, toList_madeCells_one]
  rw [e] at h
  exact h
/-- The rows of the mantissas, i of them made. -/
def sliceAt (b0 W i : Nat) : Value := .slice (some ⟨b0 + 2 + 2 * i, 0, none⟩) W W
def topRow (b0 W n i : Nat) : List Value := (List.range i).map (sliceAt b0 W) ++ List.replicate (n - i) (.slice none 0 0)
theorem topRow_set {b0 W n i bg : Nat} (hi : i < n) (hb : bg = b0 + 2 + 2 * i) : (topRow b0 W n i).set i (.slice (some ⟨bg, 0, none⟩) W W) = topRow b0 W n (i + 1) := by
  subst hb
  unfold topRow
  have hl : ((List.range i).map (sliceAt b0 W)).length = i := by simp
  rw [List.set_append, if_neg (by omega), hl, Nat.sub_self, List.range_succ, List.map_append, List.append_assoc]
  congr 1
  obtain ⟨d, hd⟩ : ∃ d, n - i = d + 1 := ⟨n - i - 1, by omega⟩
  rw [hd, show n - (i + 1) = d by omega, List.replicate_succ, List.set_cons_zero]
  rfl
def RowsOk (K W : Nat) (l : List (Nat × Int)) (J : Nat → Nat) (b0 i : Nat) (wr : World) : Prop :=
  ∀ i' x, i' < i → l[i']? = some x → ∃ X : List Nat, RowW wr (b0 + 2 + 2 * i') X ∧ okW X ∧ X.length = W ∧ wv X = tmM K x.1 (J i')
theorem sumE_snoc (K j : Nat) (l : List (Nat × Int)) {i : Nat} {x : Nat × Int} (h : l[i]? = some x) : sumE K j (l.take (i + 1)) = sumE K j (l.take i) + x.2 * (tmE K x.1 j : Int) := by
  rw [List.take_add_one, h, sumE_append]
  show _ + (x.2 * (tmE K x.1 j : Int) + 0) = _
  omega
theorem absA_snoc (l : List (Nat × Int)) {i : Nat} {x : Nat × Int} (h : l[i]? = some x) : absA (l.take (i + 1)) = absA (l.take i) + max x.2 (-x.2) := by
  rw [List.take_add_one, h, absA_append]
  show _ + (max x.2 (-x.2) + 0) = _
  omega
theorem wA_mem {l : List (Nat × Int)} {x : Nat × Int} (h : x ∈ l) : -(wA l : Int) ≤ x.2 * (Nat.log2 x.1 : Int) ∧ x.2 * (Nat.log2 x.1 : Int) ≤ (wA l : Int) := by
  have h0 : x.2.natAbs * Nat.log2 x.1 ≤ wA l := by
    induction l with
    | nil => cases h
    | cons y r ih =>
      show x.2.natAbs * Nat.log2 x.1 ≤ y.2.natAbs * Nat.log2 y.1 + wA r
      rcases List.mem_cons.1 h with h | h
      · subst h; omega
      · have := ih h; omega
  have h1 : x.2 * (Nat.log2 x.1 : Int) ≤ ((x.2.natAbs * Nat.log2 x.1 : Nat) : Int) := by
    rw [Int.natCast_mul]; exact Int.mul_le_mul_of_nonneg_right (by omega) (by omega)
  have h2 : -((x.2.natAbs * Nat.log2 x.1 : Nat) : Int) ≤ x.2 * (Nat.log2 x.1 : Int) := by
    rw [Int.natCast_mul, ← Int.neg_mul]; exact Int.mul_le_mul_of_nonneg_right (by omega) (by omega)
  omega
theorem wv_top (Wp v : Nat) : wv ((List.replicate (Wp + 1) 0).set Wp v) = WB ^ Wp * v := by
  have e : (List.replicate (Wp + 1) 0).set Wp v = List.replicate Wp 0 ++ [v] := by
    rw [List.replicate_succ', List.set_append, if_neg (by simp)]
    simp
  rw [e, wv_snoc, wv_zero, List.length_replicate, Nat.zero_add]
theorem top_val {Wp n q sh : Nat} (hs : sh + q = 63) : WB ^ Wp * (n * 2 ^ sh) = n * 2 ^ (64 * (Wp + 1) - 1 - q) := by
  rw [show WB = 2 ^ 64 from rfl, ← Nat.pow_mul, Nat.mul_left_comm, ← Nat.pow_add]
  congr 2; omega
def EaRel (w : World) (K W : Nat) (l : List (Nat × Int)) (sv dv iv : Value) (wr : World) : Prop :=
  ∃ i : Nat, i ≤ l.length ∧ iv = .int .i64 (i : Int) ∧ sv = .int .i64 (sumE K 0 (l.take i)) ∧ dv = .int .i64 (2 * absA (l.take i)) ∧
    wr.heap[w.heap.size]? = some (.cells (topRow w.heap.size W l.length i).toArray 146 (0, 0)) ∧ wr.heap.size = w.heap.size + 1 + 2 * i ∧ RowsOk K W l (fun _ => 0) w.heap.size i wr ∧ Below w.heap.size w wr

/-- The rows of all mantissas, J i times squared, and the room. -/
def EMem (w : World) (K W : Nat) (l : List (Nat × Int)) (J : Nat → Nat) (gr : Nat) (wr : World) : Prop :=
  wr.heap[w.heap.size]? = some (.cells (topRow w.heap.size W l.length l.length).toArray 146 (0, 0)) ∧ RowsOk K W l J w.heap.size l.length wr ∧ (∃ R : List Nat, RowW wr gr R ∧ R.length = 2 * W) ∧ Below w.heap.size w wr
def EbRel (w : World) (K W : Nat) (l : List (Nat × Int)) (gr : Nat) (sv iv : Value) (wr : World) : Prop :=
  ∃ t : Nat, t ≤ 64 * W - 1 ∧ iv = .int .i64 (t : Int) ∧ sv = .int .i64 (sumE K t l) ∧ (∀ t', t' < t → -(2 * absA l) ≤ sumE K t' l ∧ sumE K t' l ≤ 2 * absA l) ∧ EMem w K W l (fun _ => t) gr wr
def EcRel (w : World) (K W : Nat) (l : List (Nat × Int)) (gr t : Nat) (sv iv : Value) (wr : World) : Prop :=
  ∃ i : Nat, i ≤ l.length ∧ iv = .int .i64 (i : Int) ∧ sv = .int .i64 (2 * sumE K t l + bitS K t (l.take i)) ∧ EMem w K W l (fun i' => if i' < i then t + 1 else t) gr wr
theorem EMem.alloc {w : World} {K W : Nat} {l : List (Nat × Int)} {J : Nat → Nat} {gr : Nat} {wr : World} (h : EMem w K W l J gr wr) (o : Obj) : EMem w K W l J gr (wr.alloc o) := by
  obtain ⟨h1, h2, ⟨R, h3, h4⟩, h5⟩ := h
  have hb : Below wr.heap.size wr (wr.alloc o) := (Below.refl _ _).alloc (Nat.le_refl _) _
  refine ⟨(hb.block _ ?_).trans h1, fun i' x hi hx => ?_, ⟨R, h3.up hb, h4⟩, h5.trans (hb.mono h5.size)⟩
  · exact (Array.getElem?_eq_some_iff.1 h1).1
  · obtain ⟨X, g1, g2, g3, g4⟩ := h2 i' x hi hx
    exact ⟨X, g1.up hb, g2, g3, g4⟩
/-- One mantissa squared. -/
theorem EMem.squared {w : World} {K W : Nat} {l : List (Nat × Int)} {t i gr : Nat} {wr w' : World} {x : Nat × Int} {X' R' : List Nat} (h : EMem w K W l (fun i' => if i' < i then t + 1 else t) gr wr) (hi : i < l.length) (hx : l[i]? = some x) (hgr : gr = w.heap.size + 1 + 2 * l.length)
    (hT : Two (w.heap.size + 2 + 2 * i) gr wr w') (h1 : RowW w' (w.heap.size + 2 + 2 * i) X') (h2 : okW X') (h3 : X'.length = W) (h4 : wv X' = tmM K x.1 (t + 1)) (h5 : RowW w' gr R') (h6 : R'.length = 2 * W) :
    EMem w K W l (fun i' => if i' < i + 1 then t + 1 else t) gr w' := by
  obtain ⟨a1, a2, -, a4⟩ := h
  refine ⟨(hT.block _ (by omega) (by omega)).trans a1, fun i' y hi' hy => ?_, ⟨R', h5, h6⟩, Two.below a4 hT (by omega) (by omega)⟩
  by_cases he : i' = i
  · subst he
    rw [hx] at hy
    cases hy
    exact ⟨X', h1, h2, h3, by simp only; rw [if_pos (by omega)]; exact h4⟩
  · obtain ⟨X, g1, g2, g3, g4⟩ := a2 i' y hi' hy
    refine ⟨X, (hT.block _ (by omega) (by omega)).trans g1, g2, g3, ?_⟩
    simp only at g4 ⊢
    rw [g4]
    congr 1
    by_cases hlt : i' < i
    · rw [if_pos hlt, if_pos (by omega)]
    · rw [if_neg hlt, if_neg (by omega)]
theorem bitS_snoc (K j : Nat) (l : List (Nat × Int)) {i : Nat} {x : Nat × Int} (h : l[i]? = some x) : bitS K j (l.take (i + 1)) = bitS K j (l.take i) + (if sqB (2 ^ K) (tmM K x.1 j) then x.2 else 0) := by
  rw [List.take_add_one, h, bitS_append]
  show _ + ((if sqB (2 ^ K) (tmM K x.1 j) then x.2 else 0) + 0) = _
  omega

theorem EMem.next {w : World} {K W : Nat} {l : List (Nat × Int)} {t gr : Nat} {wr : World} (h : EMem w K W l (fun i' => if i' < l.length then t + 1 else t) gr wr) : EMem w K W l (fun _ => t + 1) gr wr := by
  obtain ⟨a1, a2, a3, a4⟩ := h
  refine ⟨a1, fun i' y hi' hy => ?_, a3, a4⟩
  obtain ⟨X, g1, g2, g3, g4⟩ := a2 i' y hi' hy
  refine ⟨X, g1, g2, g3, ?_⟩
  simp only at g4 ⊢
  rw [g4, if_pos hi']
theorem EMem.first {w : World} {K W : Nat} {l : List (Nat × Int)} {t gr : Nat} {wr : World} (h : EMem w K W l (fun _ => t) gr wr) : EMem w K W l (fun i' => if i' < 0 then t + 1 else t) gr wr := by
  obtain ⟨a1, a2, a3, a4⟩ := h
  refine ⟨a1, fun i' y hi' hy => ?_, a3, a4⟩
  obtain ⟨X, g1, g2, g3, g4⟩ := a2 i' y hi' hy
  exact ⟨X, g1, g2, g3, by simp only at g4 ⊢; rw [g4, if_neg (by omega)]⟩
/-- The call of square in a round. -/
theorem EMem.call {w : World} {W : Nat} {l : List (Nat × Int)} {t i gr : Nat} {wr : World} {x : Nat × Int} (h : EMem w (64 * W - 1) W l (fun i' => if i' < i then t + 1 else t) gr wr) (hi : i < l.length) (hx : l[i]? = some x) (hgr : gr = w.heap.size + 1 + 2 * l.length) (hW : 1 ≤ W) (hW2 : W ≤ 17592186044416) (o : Obj) :
    Calls Tryd.prog 112 #[.slice (some ⟨w.heap.size + 2 + 2 * i, 0, none⟩) W W, .slice (some ⟨gr, 0, none⟩) (2 * W) (2 * W)] (wr.alloc o) fun e w' =>
      e = .returned (.bool (sqB (2 ^ (64 * W - 1)) (tmM (64 * W - 1) x.1 t))) ∧ EMem w (64 * W - 1) W l (fun i' => if i' < i + 1 then t + 1 else t) gr w' ∧ w'.heap[wr.heap.size]? = some o ∧ wr.heap.size < w'.heap.size := by
  have ha := h.alloc o
  obtain ⟨a1, a2, ⟨R, a3, a3'⟩, a4⟩ := ha
  obtain ⟨X, g1, g2, g3, g4⟩ := a2 i x hi hx
  have g4 : wv X = tmM (64 * W - 1) x.1 t := by simp only at g4; rw [g4, if_neg (by omega)]
  have hc := squareW gr (w.heap.size + 2 + 2 * i) W R X (wr.alloc o) a3 g1 g2 (by omega) g3 a3' hW (by omega)
  rw [g4] at hc
  refine hc.mono ?_
  rintro e w' ⟨X', R', he, k1, k2, k3, k4, k5, k6, k7⟩
  have hlt1 := g1.lt
  have hlt2 := a3.lt
  obtain ⟨h1, h2, ⟨R0, h3, h3'⟩, h4⟩ := h
  obtain ⟨X0, q1, -, -, -⟩ := h2 i x hi hx
  have l1 := q1.lt
  have l2 := h3.lt
  refine ⟨he, EMem.squared ⟨a1, a2, ⟨R, a3, a3'⟩, a4⟩ hi hx hgr k7 k1 k2 k3 k4 k5 k6, ?_, ?_⟩
  · rw [k7.block _ (by omega) (by omega)]
    exact heap_alloc_new wr o
  · rw [k7.size]; simp

set_option maxRecDepth 100000 in
set_option maxHeartbeats 8000000 in
theorem estimate_any (v : Value) (l : List (Nat × Int)) (W : Nat) (w : World) (hv : TmC w w.heap.size v l) (hn : ∀ x ∈ l, 1 ≤ x.1 ∧ x.1 < 4611686018427387904) (ha : absA l ≤ 1200000000000000000) (hw : wA l ≤ 7900000000000000000)
    (hlen : l.length ≤ 1000) (hW : 1 ≤ W) (hW2 : W ≤ 17592186044416) :
    Calls Tryd.prog 70 #[v, .int .i64 (W : Int)] w fun e w' => ∃ r : Int, e = .returned (.int .i64 r) ∧ EstPost W l r ∧ Below w.heap.size w w' := by
  obtain ⟨A, capv, rfl, hcap, -⟩ := id hv
  have HV := Lib.hid hv
  have HN := Lib.hid hn
  have hs0 := sum0_le (64 * W - 1) l
  have HS0 := Lib.hid hs0
  have HW0 := Lib.hid hw
  clear hv hn hs0 hw
  go_enter Tryd.func70, Tryd.ntmps70
  have hm1 := mkWW l.length (by omega) w
  have hmW := fun W' => mkW W (by omega) W'
  go_wp2_with fail
  go_loopw [5, 6, 19] (fun sv dv iv wr => EaRel w (64 * W - 1) W l sv dv iv wr) (fun _ _ iv _ => l.length - (intOf iv).toNat)
  case atStart => exact ⟨0, Nat.zero_le _, rfl, rfl, rfl, by
      have h := heap_alloc_new w (.cells (List.replicate l.length (Value.slice none 0 0)).toArray 146)
      simpa [topRow] using h, by simp, fun i' x h => absurd h (by omega), (Below.refl _ _).alloc (Nat.le_refl _) _⟩
  case round =>
    obtain ⟨i, hi, rfl, rfl, rfl, htop, hsz, hrows, hb⟩ := hrel
    by_cases hlt : i < l.length
    · obtain ⟨x, hx⟩ : ∃ x, l[i]? = some x := ⟨l[i], List.getElem?_eq_getElem hlt⟩
      have hvr := HV.out.keep hb
      obtain ⟨A', cap', e, -, hh⟩ := hvr
      cases e
      obtain ⟨g, o, rfl, hg, hcells⟩ := hh (by intro e; rw [e] at hlt; simp at hlt)
      obtain ⟨c0, c1⟩ := hcells i x hx
      obtain ⟨n1, n2⟩ := HN.out x (List.mem_of_getElem? hx)
      have hPm := wA_mem (List.mem_of_getElem? hx)
      have hlog := bitLen_log2 (n := x.1) (by omega) (by omega)
      have hlen64 := fun W' => Tryd.bits_Len64 (x.1 : Int) W' (by omega) (by omega)
      rw [Int.toNat_natCast, hlog] at hlen64
      have hq61 := log2_lt62 n1 n2
      have e0 : tmE (64 * W - 1) x.1 0 = Nat.log2 x.1 := rfl
      have e1 : tmM (64 * W - 1) x.1 0 = x.1 * 2 ^ (64 * W - 1 - Nat.log2 x.1) := rfl
      have hpow : x.1 < 2 ^ (Nat.log2 x.1 + 1) := Nat.lt_log2_self
      have E0 := Lib.hid e0
      have E1 := Lib.hid e1
      have HP := Lib.hid hpow
      clear e0 e1 hpow
      generalize Nat.log2 x.1 = q at *
      have hlen64 : ∀ W', Calls Tryd.prog 111 #[.int .u64 (x.1 : Int)] W' fun e w' => e = .returned (.int .i64 ((q : Int) + 1)) ∧ w' = W' := hlen64
      have HLEN := Lib.hid hlen64
      have HTOP := Lib.hid htop
      have HSZ := Lib.hid hsz
      have HROWS := Lib.hid hrows
      have HB := Lib.hid hb
      have HX := Lib.hid hx
      have hiI : (i : Int) < (l.length : Int) := by omega
      clear hlen64 htop hsz hrows hb hx hh hcells hlog
      go_wp2_with fail
      refine (HLEN.out _).mono ?_
      rintro e w2 ⟨he, hw2⟩
      subst he
      have hb2 : Below wr.heap.size wr w2 := by rw [hw2]; exact (Below.refl _ _).alloc (Nat.le_refl _) _
      have hz2 : w2.heap.size = wr.heap.size + 1 := by rw [hw2]; simp
      have hT : w2.heap[wr.heap.size]? = some (.cells #[.int .i64 (x.1 : Int), .int .i64 x.2] 75 (0, 0)) := by rw [hw2]; exact heap_alloc_new _ _
      have hsz := HSZ.out
      have htop2 : w2.heap[w.heap.size]? = some (.cells (topRow w.heap.size W l.length i).toArray 146 (0, 0)) := (hb2.block _ (by omega)).trans HTOP.out
      clear hw2
      obtain ⟨Z, hZ⟩ : ∃ Z : Obj, Z = .cells (zerosW W).toArray 145 := ⟨_, rfl⟩
      have hmW2 := hmW w2
      rw [← hZ] at hmW2
      obtain ⟨w3, hw3⟩ : ∃ w3, w3 = w2.alloc Z := ⟨_, rfl⟩
      rw [← hw3] at hmW2
      have hb3 : Below w2.heap.size w2 w3 := by rw [hw3]; exact (Below.refl _ _).alloc (Nat.le_refl _) _
      have htop3 : w3.heap[w.heap.size]? = some (.cells (topRow w.heap.size W l.length i).toArray 146 (0, 0)) := (hb3.block _ (by omega)).trans htop2
      have hT3 : w3.heap[wr.heap.size]? = some (.cells #[.int .i64 (x.1 : Int), .int .i64 x.2] 75 (0, 0)) := (hb3.block _ (by omega)).trans hT
      have hZ3 : RowW w3 w2.heap.size (List.replicate W 0) := by rw [hw3, hZ]; exact RowW.new w2 W
      have hz3 : w3.heap.size = wr.heap.size + 2 := by rw [hw3]; simp; omega
      have t0 := Go.Joins.cell_of_block htop3 i
      have t1 : w3.frozen? ⟨w.heap.size, i, none⟩ = false := by simp [World.frozen?, htop3]
      have t2 : w3.cell? ⟨w.heap.size, i, none⟩ = some (.slice none 0 0) := by
        rw [t0]
        simp [topRow, show 0 < l.length - i by omega]
      have HSZ2 := Lib.hid hsz
      have HZ2 := Lib.hid hz2
      have HZ3 := Lib.hid hz3
      have HTOP3 := Lib.hid htop3
      have HT3 := Lib.hid hT3
      have HZR := Lib.hid hZ3
      have HB2 := Lib.hid hb2
      have HB3 := Lib.hid hb3
      clear t0 hmW htop2 hT hsz hz2 hz3 htop3 hT3 hZ3 hb2 hb3 hw3 hZ
      obtain ⟨bg, hbg⟩ : ∃ bg, bg = w2.heap.size := ⟨_, rfl⟩
      rw [← hbg] at hmW2
      have HBG := Lib.hid hbg
      clear hbg hm1
      go_wp2_with fail
      obtain ⟨Wp, hWp⟩ : ∃ Wp, W = Wp + 1 := ⟨W - 1, by omega⟩
      obtain ⟨sh, hsh⟩ : ∃ sh, sh + q = 63 := ⟨63 - q, by omega⟩
      have hbg2 : bg = w.heap.size + 2 + 2 * i := by have := HBG.out; have := HZ2.out; have := HSZ.out; omega
      have HBG2 := Lib.hid hbg2
      have HWP := Lib.hid hWp
      have HSH := Lib.hid hsh
      obtain ⟨w4, hw4⟩ : ∃ w4, w4 = w3.setCell ⟨w.heap.size, i, none⟩ (.slice (some ⟨bg, 0, none⟩) W W) := ⟨_, rfl⟩
      rw [← hw4]
      have hsz := HSZ.out
      have hz2 := HZ2.out
      have htop4 : w4.heap[w.heap.size]? = some (.cells (topRow w.heap.size W l.length (i + 1)).toArray 146 (0, 0)) := by
        rw [hw4, ← topRow_set hlt hbg2]
        have h := HTOP3.out
        simp [World.setCell, Array.getElem?_modify, h]
      have hT4 : w4.heap[wr.heap.size]? = some (.cells #[.int .i64 (x.1 : Int), .int .i64 x.2] 75 (0, 0)) := by
        rw [hw4]
        have h := HT3.out
        have hne : w.heap.size ≠ wr.heap.size := by omega
        simp [World.setCell, Array.getElem?_modify, h, hne]
      have hZ4 : RowW w4 bg (List.replicate W 0) := by
        rw [hw4, HBG.out]
        exact HZR.out.other _ (by omega)
      have hb4 : Below w.heap.size w w4 := by
        rw [hw4]
        exact ((HB.out.trans (HB2.out.mono HB.out.size)).trans (HB3.out.mono (Nat.le_trans HB.out.size HB2.out.size))).setCell (p := ⟨w.heap.size, i, none⟩) (Nat.le_refl _) _
      have hz4 : w4.heap.size = wr.heap.size + 2 := by rw [hw4]; simp [World.setCell]; exact HZ3.out
      have hrows4 : RowsOk (64 * W - 1) W l (fun _ => 0) w.heap.size i w4 := by
        intro i' y hi' hy
        obtain ⟨X, g1, g2, g3, g4⟩ := HROWS.out i' y hi' hy
        refine ⟨X, ?_, g2, g3, g4⟩
        have hlt' := g1.lt
        rw [hw4]
        exact ((g1.below HB2.out hlt').below HB3.out (by omega)).other _ (by omega)
      have a0 := Go.Joins.cell_of_block htop4 i
      have a1 := Go.Joins.cell_of_block hT4 0
      have a2 := Go.Joins.cell_of_block hT4 1
      have a0' : w4.cell? ⟨w.heap.size, i, none⟩ = some (.slice (some ⟨bg, 0, none⟩) W W) := by
        rw [a0, HBG2.out]
        simp [topRow, List.getElem?_append_left, sliceAt]
      have a1' : w4.cell? ⟨wr.heap.size, 0, none⟩ = some (.int .i64 (x.1 : Int)) := a1
      have a2' : w4.cell? ⟨wr.heap.size, 1, none⟩ = some (.int .i64 x.2) := a2
      have z0 : w4.cell? ⟨bg, Wp, none⟩ = some (.int .u64 0) := hZ4.cell (x := 0) (by rw [List.getElem?_replicate, if_pos (by omega)])
      have zf := hZ4.frozen Wp
      have HTOP4 := Lib.hid htop4
      have HT4 := Lib.hid hT4
      have HZ4 := Lib.hid hZ4
      have HB4 := Lib.hid hb4
      have HZZ := Lib.hid hz4
      have HR4 := Lib.hid hrows4
      clear a0 a1 a2 htop4 hT4 hZ4 hb4 hz4 hrows4 hw4 hsz hz2 t1 t2 hmW2 hbg2
      have s1 : (W : Int) - 1 = (Wp : Int) := by omega
      have s2 : IntKind.i64.wrap (Wp : Int) = (Wp : Int) := IntWalk.i64_in _ (by omega)
      have s3 : (0 : Int) ≤ (Wp : Int) := Int.natCast_nonneg _
      have s4 : (Wp : Int) < (W : Int) := by omega
      have s5 : 63 - (q : Int) = (sh : Int) := by omega
      have s6 : IntKind.i64.wrap (sh : Int) = (sh : Int) := IntWalk.i64_in _ (by omega)
      have s7 : (0 : Int) ≤ (sh : Int) := Int.natCast_nonneg _
      have s8 : (0 : Int) ≤ (i : Int) := Int.natCast_nonneg _
      have s9 : IntKind.u64.wrap (x.1 : Int) = (x.1 : Int) := by rw [IntKind.wrap_u64]; omega
      clear hWp hsh
      go_still_tail 13, (by kernel_rfl)
      change wpList _ _ _ _ _ w4.drew
      have hm64 : x.1 * 2 ^ sh < 18446744073709551616 := by
        have h1 : x.1 * 2 ^ sh < 2 ^ (q + 1) * 2 ^ sh := Nat.mul_lt_mul_of_pos_right HP.out (Nat.pow_pos (by omega))
        rw [← Nat.pow_add, show q + 1 + sh = 64 by have := HSH.out; omega] at h1
        exact h1
      have r1 : IntKind.u64.wrap ((x.1 : Int) * 2 ^ sh) = ((x.1 * 2 ^ sh : Nat) : Int) := by
        rw [Int.natCast_mul, Int.natCast_pow] at *
        rw [IntKind.wrap_u64]
        have e : ((2 : Nat) : Int) = 2 := rfl
        rw [← e, ← Int.natCast_pow, ← Int.natCast_mul]
        omega
      have hss := sumE_snoc (64 * W - 1) 0 l HX.out
      rw [E0.out] at hss
      have haa := absA_snoc l HX.out
      have hb1 := HS0.out i
      have hb2 := HS0.out (i + 1)
      have hw := HW0.out
      have hab := absA_take l (i + 1)
      have hab0 := absA_nonneg (l.take i)
      obtain ⟨P, hP⟩ : ∃ P : Int, x.2 * (q : Int) = P := ⟨_, rfl⟩
      rw [hP] at hss hPm
      obtain ⟨m0, hm0⟩ : ∃ m0, m0 = x.1 * 2 ^ sh := ⟨_, rfl⟩
      rw [← hm0] at r1 hm64
      generalize hS : sumE (64 * W - 1) 0 (l.take i) = Sv at *
      generalize hS2 : sumE (64 * W - 1) 0 (l.take (i + 1)) = Sv2 at *
      generalize hD : absA (l.take i) = Dv at *
      generalize hD2 : absA (l.take (i + 1)) = Dv2 at *
      have hP1 : -9000000000000000000 ≤ P ∧ P ≤ 9000000000000000000 := by omega
      have hP2 : IntKind.i64.wrap P = P := IntWalk.i64_in _ (by omega)
      have hPS : IntKind.i64.wrap (Sv + P) = Sv2 := by rw [hss]; exact IntWalk.i64_in _ (by omega)
      have hPS2 : Sv + P = Sv2 := hss.symm
      have hx1 : -1200000000000000000 ≤ x.2 ∧ x.2 ≤ 1200000000000000000 := by omega
      obtain ⟨hx1a, hx1b⟩ := hx1
      have hD0 : 0 ≤ Dv := hab0
      have hD1 : Dv ≤ 1200000000000000000 := by omega
      have hZ5 : RowW w4.drew bg (List.replicate W 0) := HZ4.out
      have hb5 : Below w.heap.size w w4.drew := HB4.out.drew
      have htop5 : w4.drew.heap[w.heap.size]? = _ := HTOP4.out
      have hT5 : w4.drew.heap[wr.heap.size]? = _ := HT4.out
      have hr5 : RowsOk (64 * W - 1) W l (fun _ => 0) w.heap.size i w4.drew := HR4.out
      have hz5 : w4.drew.heap.size = wr.heap.size + 2 := HZZ.out
      have z5 : w4.drew.cell? ⟨bg, Wp, none⟩ = some (.int .u64 0) := z0
      have z5f : w4.drew.frozen? ⟨bg, Wp, none⟩ = false := zf
      generalize w4.drew = w5 at *
      have hne1 : wr.heap.size ≠ bg := by have := HBG.out; have := HZ2.out; omega
      have kp1 : ∀ u, (w5.setCell ⟨bg, Wp, none⟩ u).cell? ⟨wr.heap.size, 1, none⟩ = some (.int .i64 x.2) := fun u => by
        rw [World.cell?_setCell_other _ _ _ _ (by intro e; injection e with e; exact hne1 e.symm), Go.Joins.cell_of_block hT5 1]; rfl
      have hZ6 := hZ5.set Wp m0
      have HZ6 := Lib.hid hZ6
      have HB5 := Lib.hid hb5
      have HTOP5 := Lib.hid htop5
      have HR5 := Lib.hid hr5
      have HZ5s := Lib.hid hz5
      have HAA := Lib.hid haa
      have HM0 := Lib.hid hm0
      have HSS := Lib.hid hss
      have HS2 := Lib.hid hS2
      have HD2 := Lib.hid hD2
      clear hZ6 hZ5 hb5 htop5 hr5 hz5 hT5 a0' a1' a2' z0 zf hss haa hm0 hab hb1 hb2 hPm hP1 hw s1 s2 s3 s4 s5 s6 s7 s8 s9 hne1 hS hS2 hD hD2 hPS2
      go_wp2
      refine ⟨⟨i + 1, by omega, by go_num, by rw [HS2.out], ?_, ?_, ?_, ?_, ?_⟩, by simp [intOf]; omega⟩
      · rw [HD2.out, HAA.out]
        congr 1
        omega
      · have hne : bg ≠ w.heap.size := by have := HBG2.out; omega
        have h := HTOP5.out
        show (w5.setCell _ _).heap[w.heap.size]? = _
        rw [← h]
        simp [World.setCell, Array.getElem?_modify, hne]
      · have h1 := HZ5s.out
        have h2 := HSZ.out
        simp [World.setCell]
        omega
      · intro i' y hi' hy
        rcases Nat.lt_or_ge i' i with h | h
        · obtain ⟨X, g1, g2, g3, g4⟩ := HR5.out i' y h hy
          exact ⟨X, g1.other _ (by have := HBG2.out; omega), g2, g3, g4⟩
        · obtain rfl : i' = i := by omega
          rw [HX.out] at hy
          cases hy
          have hW1 := HWP.out
          refine ⟨(List.replicate W 0).set Wp m0, ?_, okW_set (okW_zero W) hm64, by simp, ?_⟩
          · have h := HZ6.out
            rw [HBG2.out] at h
            rw [HBG2.out]
            exact h
          · have he := E1.out
            rw [hW1] at he
            rw [hW1, wv_top, HM0.out]
            exact (top_val HSH.out).trans he.symm
      · exact HB5.out.setCell (p := ⟨bg, Wp, none⟩) (by have := HBG2.out; simp; omega) _
    · obtain rfl : i = l.length := by omega
      rw [List.take_length]
      obtain ⟨gr, hgr⟩ : ∃ gr, gr = wr.heap.size := ⟨_, rfl⟩
      have hgr2 : gr = w.heap.size + 1 + 2 * l.length := by rw [hgr]; exact hsz
      have hm2 : (Instr.makeSlice 146 (.int .i64 (2 * (W : Int))) (.int .i64 (2 * (W : Int)))).run Tryd.prog wr = .ok (.slice (some ⟨gr, 0, none⟩) (2 * W) (2 * W)) (wr.alloc (.cells (zerosW (2 * W)).toArray 145)) := by
        rw [hgr]
        have h := mkW (2 * W) (by omega) wr
        rw [Int.natCast_mul] at h
        exact h
      have hem : EMem w (64 * W - 1) W l (fun _ => 0) gr (wr.alloc (.cells (zerosW (2 * W)).toArray 145)) := by
        have hb1 : Below wr.heap.size wr (wr.alloc (.cells (zerosW (2 * W)).toArray 145)) := (Below.refl _ _).alloc (Nat.le_refl _) _
        refine ⟨(hb1.block _ (by omega)).trans htop, fun i' x hi hx => ?_, ⟨List.replicate (2 * W) 0, by rw [hgr]; exact RowW.new wr (2 * W), by simp⟩, hb.trans (hb1.mono hb.size)⟩
        obtain ⟨X, g1, g2, g3, g4⟩ := hrows i' x hi hx
        exact ⟨X, g1.up hb1, g2, g3, g4⟩
      have HEM := Lib.hid hem
      have HGR := Lib.hid hgr2
      have h64 : 64 * (W : Int) - 1 = ((64 * W - 1 : Nat) : Int) := by omega
      have hA0 := absA_nonneg l
      clear hm1 hmW htop hsz hrows hb hgr hgr2 hem hi hlt
      go_wp2_with fail
      go_loopw [5, 69] (fun sv iv wr2 => EbRel w (64 * W - 1) W l gr sv iv wr2) (fun _ iv _ => 64 * W - 1 - (intOf iv).toNat)
      case atStart => exact ⟨0, Nat.zero_le _, rfl, rfl, fun t' h => absurd h (by omega), HEM.out⟩
      case round =>
        obtain ⟨t, ht, rfl, rfl, hbd, hem⟩ := hrel
        have HBD := Lib.hid hbd
        have HE := Lib.hid hem
        clear hbd hem HEM
        obtain ⟨Sv, hSv⟩ : ∃ Sv, Sv = sumE (64 * W - 1) t l := ⟨_, rfl⟩
        obtain ⟨Da, hDa⟩ : ∃ Da, Da = absA l := ⟨_, rfl⟩
        rw [← hSv]
        rw [← hDa] at hA0 ha ⊢
        have HSV := Lib.hid hSv
        have HDA := Lib.hid hDa
        have HBE := HE.out.2.2.2
        have HB := Lib.hid HBE
        clear hSv hDa HBE
        by_cases hlt : t < 64 * W - 1
        · have hltI : (t : Int) < ((64 * W - 1 : Nat) : Int) := by omega
          by_cases hup : 2 * Da < Sv
          · go_wp2_with fail
            go_ret
            exact ⟨1, rfl, .inl ⟨rfl, t, by omega, by rw [← HSV.out, ← HDA.out]; exact hup⟩, HB.out⟩
          by_cases hdn : Sv < -(2 * Da)
          · go_wp2_with fail
            go_ret
            exact ⟨-1, rfl, .inr (.inl ⟨rfl, t, by omega, by rw [← HSV.out, ← HDA.out]; exact hdn⟩), HB.out⟩
          have hS1 : -2400000000000000000 ≤ Sv := by omega
          have hS2 : Sv ≤ 2400000000000000000 := by omega
          go_wp2_with fail
          go_loopw [5, 82] (fun sv iv wr3 => EcRel w (64 * W - 1) W l gr t sv iv wr3) (fun _ iv _ => l.length - (intOf iv).toNat)
          case atStart => exact ⟨0, Nat.zero_le _, rfl, by rw [← HSV.out, List.take_zero]; congr 1; show Sv * 2 = 2 * Sv + 0; omega, HE.out.first⟩
          case round =>
            obtain ⟨i, hi, rfl, rfl, hem⟩ := hrel
            rw [← HSV.out]
            have hrl := round_le (K := 64 * W - 1) (j := t) (i := i) (l := l) (by rw [← HSV.out, ← HDA.out]; omega) (by rw [← HSV.out, ← HDA.out]; omega)
            rw [← HSV.out, ← HDA.out] at hrl
            by_cases hlt3 : i < l.length
            · obtain ⟨x, hx⟩ : ∃ x, l[i]? = some x := ⟨l[i], List.getElem?_eq_getElem hlt3⟩
              have hvr := HV.out.keep hem.2.2.2
              obtain ⟨A', cap', e, -, hh⟩ := hvr
              cases e
              obtain ⟨g, o, rfl, hg, hcells⟩ := hh (by intro e; rw [e] at hlt3; simp at hlt3)
              obtain ⟨c0, c1⟩ := hcells i x hx
              have hsn := bitS_snoc (64 * W - 1) t l hx
              have hrl2 := round_le (K := 64 * W - 1) (j := t) (i := i + 1) (l := l) (by rw [← HSV.out, ← HDA.out]; omega) (by rw [← HSV.out, ← HDA.out]; omega)
              rw [← HSV.out, ← HDA.out, hsn] at hrl2
              have hcall := fun o' => EMem.call hem hlt3 hx HGR.out hW hW2 o'
              have htopc : ∀ o', (World.alloc _ o').cell? ⟨w.heap.size, i, none⟩ = some (.slice (some ⟨w.heap.size + 2 + 2 * i, 0, none⟩) W W) := fun o' => by
                rw [Go.Joins.cell_of_block (hem.alloc o').1 i]
                simp [topRow, sliceAt, hlt3]
              have HSN := Lib.hid hsn
              have HCALL := Lib.hid hcall
              have hiI : (i : Int) < (l.length : Int) := by omega
              have s8 : (0 : Int) ≤ (i : Int) := Int.natCast_nonneg _
              obtain ⟨Ac, hAc⟩ : ∃ Ac, Ac = 2 * Sv + bitS (64 * W - 1) t (l.take i) := ⟨_, rfl⟩
              rw [← hAc] at hrl ⊢
              have HAC := Lib.hid hAc
              have hr1 := hrl.1
              have hr2 := hrl.2
              clear hcall hem hsn hh hcells hx hAc hrl
              cases hsb : sqB (2 ^ (64 * W - 1)) (tmM (64 * W - 1) x.1 t)
              · rw [hsb] at HSN HCALL
                clear hsb hrl2
                go_wp2_with fail
                refine (HCALL.out _).mono ?_
                rintro e w4 ⟨he, hem4, -, -⟩
                subst he
                have HE4 := Lib.hid hem4
                clear hem4
                go_wp2_with fail
                refine ⟨⟨i + 1, by omega, by go_num, ?_, HE4.out⟩, by simp [intOf]; omega⟩
                have h := HSN.out
                simp only [Bool.false_eq_true, if_false] at h
                rw [← HSV.out, h, HAC.out]
                congr 1; omega
              · rw [hsb] at HSN HCALL
                rw [hsb] at hrl2
                simp only [if_true] at hrl2
                have hr3 : -6000000000000000000 ≤ Ac + x.2 ∧ Ac + x.2 ≤ 6000000000000000000 := by have := HAC.out; omega
                obtain ⟨hr3a, hr3b⟩ := hr3
                clear hsb hrl2
                go_wp2_with fail
                refine (HCALL.out _).mono ?_
                rintro e w4 ⟨he, hem4, hT4, -⟩
                subst he
                have d1 := Go.Joins.cell_of_block hT4 1
                have HE4 := Lib.hid hem4
                clear hem4 hT4
                go_wp2_with fail
                refine ⟨⟨i + 1, by omega, by go_num, ?_, HE4.out⟩, by simp [intOf]; omega⟩
                have h := HSN.out
                simp only [if_true] at h
                rw [← HSV.out, h, HAC.out]
                congr 1; omega
            · obtain rfl : i = l.length := by omega
              rw [List.take_length]
              have hss := sumE_succ (64 * W - 1) t l
              rw [← HSV.out] at hss
              have HSS := Lib.hid hss
              have HE5 := Lib.hid hem.next
              have ht2 : t + 1 ≤ 64 * W - 1 := by omega
              clear hss hem hrl hi hlt3
              go_wp2_with fail
              refine ⟨⟨t + 1, ht2, by go_num, by rw [HSS.out], fun t' h' => ?_, HE5.out⟩, by simp [intOf]; omega⟩
              rcases Nat.lt_or_ge t' t with h | h
              · exact HBD.out t' h
              · obtain rfl : t' = t := by omega
                rw [← HSV.out, ← HDA.out]; omega
        · have hltI : ¬ (t : Int) < ((64 * W - 1 : Nat) : Int) := by omega
          go_wp2_with fail
          go_ret
          refine ⟨0, rfl, .inr (.inr ⟨rfl, fun j hj => HBD.out j (by omega)⟩), HB.out⟩
end Go.Proofs.YtkoghdgfllichaaDoor
