import Derived.Test.YtmbcejldifobnaaDoorC02
import Derived.Laws.ShiftsVarLaws
import Derived.Deep.AppendLies
import Derived.WalkSmall
import Derived.WalkMore
import Derived.StillTailTactics
import Derived.Deep.RegionHeld3
import Derived.Laws.StructEq
namespace Go.Proofs.YtmbcejldifobnaaDoor
open Go.RowKit
/-- v holds these terms. -/
def TmC (w : World) (B : Nat) (v : Value) (l : List (Nat × Int)) : Prop :=
  ∃ A cap, v = .slice A l.length cap ∧ l.length ≤ cap ∧ (l ≠ [] → ∃ g o, A = some ⟨g, o, none⟩ ∧ g < B ∧ ∀ i x, l[i]? = some x → w.cell? ⟨g, o + i * 2, none⟩ = some (.int .i64 (x.1 : Int)) ∧ w.cell? ⟨g, o + i * 2 + 1, none⟩ = some (.int .i64 x.2))
theorem TmC.keep {w w' : World} {B : Nat} {v : Value} {l : List (Nat × Int)} (h : TmC w B v l) (hb : Below B w w') : TmC w' B v l := by
  obtain ⟨A, cap, e, hc, h⟩ := h
  refine ⟨A, cap, e, hc, fun hne => ?_⟩
  obtain ⟨g, o, e2, hg, hx⟩ := h hne
  exact ⟨g, o, e2, hg, fun i x hi => ⟨(hb.cell (p := ⟨g, _, none⟩) hg).trans (hx i x hi).1, (hb.cell (p := ⟨g, _, none⟩) hg).trans (hx i x hi).2⟩⟩
theorem bitLen_log2 {n : Nat} (h0 : n ≠ 0) (h : n < 18446744073709551616) : Lib.bitLen n = Nat.log2 n + 1 := by
  have aux : ∀ f n, n ≠ 0 → n < 2 ^ f → Lib.bitLenAux f n = Nat.log2 n + 1 := by
    intro f
    induction f with
    | zero => intro n h0 h; simp at h; omega
    | succ f ih =>
      intro n h0 h
      rw [Lib.bitLenAux, if_neg h0]
      by_cases h2 : n < 2
      · have : n = 1 := by omega
        subst this
        have e : Lib.bitLenAux f (1 / 2) = 0 := by
          cases f with
          | zero => rfl
          | succ f => rw [Lib.bitLenAux, if_pos (by decide)]
        rw [e]; rfl
      · rw [Nat.pow_succ] at h
        rw [ih (n / 2) (by omega) (by omega)]
        conv => rhs; rw [Nat.log2_def, if_pos (by omega)]
        omega
  exact aux 64 n h0 (by simpa using h)
theorem Tryd.infoWW : (Tryd.prog.info? 181).map (fun i => (i.zero, i.size, i.bytes)) = some (some (.slice none 0 0), 1, 24) := by kernel_rfl
theorem mkWW (n : Nat) (hn : n ≤ 1000000) (w : World) :
    (Instr.makeSlice 178 (.int .i64 (n : Int)) (.int .i64 (n : Int))).run Tryd.prog w = .ok (.slice (some ⟨w.heap.size, 0, none⟩) n n) (w.alloc (.cells (List.replicate n (Value.slice none 0 0)).toArray 181)) := by
  obtain ⟨i0, hi, hz0, hz1, hz2⟩ := info_parts Tryd.infoWW
  have h := run_make (P := Tryd.prog) w 178 181 i0 _ Tryd.underlying178 hi hz0 .i64 .i64 n n (by omega) (by omega) (by rw [hz2]; omega) (by omega)
  simp only [Int.toNat_natCast] at h
  rw [hz1, Nat.mul_one] at h
  have e : madeCells (Value.slice none 0 0).cells n = (List.replicate n (Value.slice none 0 0)).toArray := by
    apply Array.toList_inj.1
    rw [show (Value.slice none 0 0).cells = #[Value.slice none 0 0] from rfl, toList_madeCells_one]
  rw [e] at h
  exact h
/-- The rows of the mantissas, i of them made. -/
def sliceAt (b0 W i : Nat) : Value := .slice (some ⟨b0 + 2 + 2 * i, 0, none⟩) W W
def topRow (b0 W n i : Nat) : List Value := (List.range i).map (sliceAt b0 W) ++ List.replicate (n - i) (.slice none 0 0)
theorem topRow_set {b0 W n i bg : Nat} (hi : i < n) (hb : bg = b0 + 2 + 2 * i) : (topRow b0 W n i).set i (.slice (some ⟨bg, 0, none⟩) W W) = topRow b0 W n (i + 1) := by
  subst hb
  unfold topRow
  have hl : ((List.range i).map (sliceAt b0 W)).length = i := by simp
  rw [List.set_append, if_neg (by omega), hl, Nat.sub_self, List.range_succ, List.map_append, List.append_assoc]
  congr 1
  obtain ⟨d, hd⟩ : ∃ d, n - i = d + 1 := ⟨n - i - 1, by omega⟩
  rw [hd, show n - (i + 1) = d by omega, List.replicate_succ, List.set_cons_zero]
  rfl
def RowsOk (K W : Nat) (l : List (Nat × Int)) (J : Nat → Nat) (b0 i : Nat) (wr : World) : Prop :=
  ∀ i' x, i' < i → l[i']? = some x → ∃ X : List Nat, RowW wr (b0 + 2 + 2 * i') X ∧ okW X ∧ X.length = W ∧ wv X = tmM K x.1 (J i')
theorem sumE_snoc (K j : Nat) (l : List (Nat × Int)) {i : Nat} {x : Nat × Int} (h : l[i]? = some x) : sumE K j (l.take (i + 1)) = sumE K j (l.take i) + x.2 * (tmE K x.1 j : Int) := by
  rw [List.take_add_one, h, sumE_append]
  show _ + (x.2 * (tmE K x.1 j : Int) + 0) = _
  omega
theorem absA_snoc (l : List (Nat × Int)) {i : Nat} {x : Nat × Int} (h : l[i]? = some x) : absA (l.take (i + 1)) = absA (l.take i) + max x.2 (-x.2) := by
  rw [List.take_add_one, h, absA_append]
  show _ + (max x.2 (-x.2) + 0) = _
  omega
theorem wA_mem {l : List (Nat × Int)} {x : Nat × Int} (h : x ∈ l) : -(wA l : Int) ≤ x.2 * (Nat.log2 x.1 : Int) ∧ x.2 * (Nat.log2 x.1 : Int) ≤ (wA l : Int) := by
  have h0 : x.2.natAbs * Nat.log2 x.1 ≤ wA l := by
    induction l with
    | nil => cases h
    | cons y r ih =>
      show x.2.natAbs * Nat.log2 x.1 ≤ y.2.natAbs * Nat.log2 y.1 + wA r
      rcases List.mem_cons.1 h with h | h
      · subst h; omega
      · have := ih h; omega
  have h1 : x.2 * (Nat.log2 x.1 : Int) ≤ ((x.2.natAbs * Nat.log2 x.1 : Nat) : Int) := by
    rw [Int.natCast_mul]; exact Int.mul_le_mul_of_nonneg_right (by omega) (by omega)
  have h2 : -((x.2.natAbs * Nat.log2 x.1 : Nat) : Int) ≤ x.2 * (Nat.log2 x.1 : Int) := by
    rw [Int.natCast_mul, ← Int.neg_mul]; exact Int.mul_le_mul_of_nonneg_right (by omega) (by omega)
  omega
theorem wv_top (Wp v : Nat) : wv ((List.replicate (Wp + 1) 0).set Wp v) = WB ^ Wp * v := by
  have e : (List.replicate (Wp + 1) 0).set Wp v = List.replicate Wp 0 ++ [v] := by
    rw [List.replicate_succ', List.set_append, if_neg (by simp)]
    simp
  rw [e, wv_snoc, wv_zero, List.length_replicate, Nat.zero_add]
theorem top_val {Wp n q sh : Nat} (hs : sh + q = 63) : WB ^ Wp * (n * 2 ^ sh) = n * 2 ^ (64 * (Wp + 1) - 1 - q) := by
  rw [show WB = 2 ^ 64 from rfl, ← Nat.pow_mul, Nat.mul_left_comm, ← Nat.pow_add]
  congr 2; omega
def EaRel (w : World) (K W : Nat) (l : List (Nat × Int)) (sv dv iv : Value) (wr : World) : Prop :=
  ∃ i : Nat, i ≤ l.length ∧ iv = .int .i64 (i : Int) ∧ sv = .int .i64 (sumE K 0 (l.take i)) ∧ dv = .int .i64 (2 * absA (l.take i)) ∧
    wr.heap[w.heap.size]? = some (.cells (topRow w.heap.size W l.length i).toArray 181 (0, 0)) ∧ wr.heap.size = w.heap.size + 1 + 2 * i ∧ RowsOk K W l (fun _ => 0) w.heap.size i wr ∧ Below w.heap.size w wr

/-- The rows of all mantissas, J i times squared, and the room. -/
def EMem (w : World) (K W : Nat) (l : List (Nat × Int)) (J : Nat → Nat) (gr : Nat) (wr : World) : Prop :=
  wr.heap[w.heap.size]? = some (.cells (topRow w.heap.size W l.length l.length).toArray 181 (0, 0)) ∧ RowsOk K W l J w.heap.size l.length wr ∧ (∃ R : List Nat, RowW wr gr R ∧ R.length = 2 * W) ∧ Below w.heap.size w wr
def EbRel (w : World) (K W : Nat) (l : List (Nat × Int)) (gr : Nat) (sv iv : Value) (wr : World) : Prop :=
  ∃ t : Nat, t ≤ 64 * W - 1 ∧ iv = .int .i64 (t : Int) ∧ sv = .int .i64 (sumE K t l) ∧ (∀ t', t' < t → -(2 * absA l) ≤ sumE K t' l ∧ sumE K t' l ≤ 2 * absA l) ∧ EMem w K W l (fun _ => t) gr wr
def EcRel (w : World) (K W : Nat) (l : List (Nat × Int)) (gr t : Nat) (sv iv : Value) (wr : World) : Prop :=
  ∃ i : Nat, i ≤ l.length ∧ iv = .int .i64 (i : Int) ∧ sv = .int .i64 (2 * sumE K t l + bitS K t (l.take i)) ∧ EMem w K W l (fun i' => if i' < i then t + 1 else t) gr wr
theorem EMem.alloc {w : World} {K W : Nat} {l : List (Nat × Int)} {J : Nat → Nat} {gr : Nat} {wr : World} (h : EMem w K W l J gr wr) (o : Obj) : EMem w K W l J gr (wr.alloc o) := by
  obtain ⟨h1, h2, ⟨R, h3, h4⟩, h5⟩ := h
  have hb : Below wr.heap.size wr (wr.alloc o) := (Below.refl _ _).alloc (Nat.le_refl _) _
  refine ⟨(hb.block _ ?_).trans h1, fun i' x hi hx => ?_, ⟨R, h3.up hb, h4⟩, h5.trans (hb.mono h5.size)⟩
  · exact (Array.getElem?_eq_some_iff.1 h1).1
  · obtain ⟨X, g1, g2, g3, g4⟩ := h2 i' x hi hx
    exact ⟨X, g1.up hb, g2, g3, g4⟩
/-- One mantissa squared. -/
theorem EMem.squared {w : World} {K W : Nat} {l : List (Nat × Int)} {t i gr : Nat} {wr w' : World} {x : Nat × Int} {X' R' : List Nat} (h : EMem w K W l (fun i' => if i' < i then t + 1 else t) gr wr) (hi : i < l.length) (hx : l[i]? = some x) (hgr : gr = w.heap.size + 1 + 2 * l.length)
    (hT : Two (w.heap.size + 2 + 2 * i) gr wr w') (h1 : RowW w' (w.heap.size + 2 + 2 * i) X') (h2 : okW X') (h3 : X'.length = W) (h4 : wv X' = tmM K x.1 (t + 1)) (h5 : RowW w' gr R') (h6 : R'.length = 2 * W) :
    EMem w K W l (fun i' => if i' < i + 1 then t + 1 else t) gr w' := by
  obtain ⟨a1, a2, -, a4⟩ := h
  refine ⟨(hT.block _ (by omega) (by omega)).trans a1, fun i' y hi' hy => ?_, ⟨R', h5, h6⟩, Two.below a4 hT (by omega) (by omega)⟩
  by_cases he : i' = i
  · subst he
    rw [hx] at hy
    cases hy
    exact ⟨X', h1, h2, h3, by simp only; rw [if_pos (by omega)]; exact h4⟩
  · obtain ⟨X, g1, g2, g3, g4⟩ := a2 i' y hi' hy
    refine ⟨X, (hT.block _ (by omega) (by omega)).trans g1, g2, g3, ?_⟩
    simp only at g4 ⊢
    rw [g4]
    congr 1
    by_cases hlt : i' < i
    · rw [if_pos hlt, if_pos (by omega)]
    · rw [if_neg hlt, if_neg (by omega)]
theorem bitS_snoc (K j : Nat) (l : List (Nat × Int)) {i : Nat} {x : Nat × Int} (h : l[i]? = some x) : bitS K j (l.take (i + 1)) = bitS K j (l.take i) + (if sqB (2 ^ K) (tmM K x.1 j) then x.2 else 0) := by
  rw [List.take_add_one, h, bitS_append]
  show _ + ((if sqB (2 ^ K) (tmM K x.1 j) then x.2 else 0) + 0) = _
  omega

theorem EMem.next {w : World} {K W : Nat} {l : List (Nat × Int)} {t gr : Nat} {wr : World} (h : EMem w K W l (fun i' => if i' < l.length then t + 1 else t) gr wr) : EMem w K W l (fun _ => t + 1) gr wr := by
  obtain ⟨a1, a2, a3, a4⟩ := h
  refine ⟨a1, fun i' y hi' hy => ?_, a3, a4⟩
  obtain ⟨X, g1, g2, g3, g4⟩ := a2 i' y hi' hy
  refine ⟨X, g1, g2, g3, ?_⟩
  simp only at g4 ⊢
  rw [g4, if_pos hi']
theorem EMem.first {w : World} {K W : Nat} {l : List (Nat × Int)} {t gr : Nat} {wr : World} (h : EMem w K W l (fun _ => t) gr wr) : EMem w K W l (fun i' => if i' < 0 then t + 1 else t) gr wr := by
  obtain ⟨a1, a2, a3, a4⟩ := h
  refine ⟨a1, fun i' y hi' hy => ?_, a3, a4⟩
  obtain ⟨X, g1, g2, g3, g4⟩ := a2 i' y hi' hy
  exact ⟨X, g1, g2, g3, by simp only at g4 ⊢; rw [g4, if_neg (by omega)]⟩
/-- The call of square in a round. -/
theorem EMem.call {w : World} {W : Nat} {l : List (Nat × Int)} {t i gr : Nat} {wr : World} {x : Nat × Int} (h : EMem w (64 * W - 1) W l (fun i' => if i' < i then t + 1 else t) gr wr) (hi : i < l.length) (hx : l[i]? = some x) (hgr : gr = w.heap.size + 1 + 2 * l.length) (hW : 1 ≤ W) (hW2 : W ≤ 17592186044416) (o : Obj) :
    Calls Tryd.prog 145 #[.slice (some ⟨w.heap.size + 2 + 2 * i, 0, none⟩) W W, .slice (some ⟨gr, 0, none⟩) (2 * W) (2 * W)] (wr.alloc o) fun e w' =>
      e = .returned (.bool (sqB (2 ^ (64 * W - 1)) (tmM (64 * W - 1) x.1 t))) ∧ EMem w (64 * W - 1) W l (fun i' => if i' < i + 1 then t + 1 else t) gr w' ∧ w'.heap[wr.heap.size]? = some o ∧ wr.heap.size < w'.heap.size := by
  have ha := h.alloc o
  obtain ⟨a1, a2, ⟨R, a3, a3'⟩, a4⟩ := ha
  obtain ⟨X, g1, g2, g3, g4⟩ := a2 i x hi hx
  have g4 : wv X = tmM (64 * W - 1) x.1 t := by simp only at g4; rw [g4, if_neg (by omega)]
  have hc := squareW gr (w.heap.size + 2 + 2 * i) W R X (wr.alloc o) a3 g1 g2 (by omega) g3 a3' hW (by omega)
  rw [g4] at hc
  refine hc.mono ?_
  rintro e w' ⟨X', R', he, k1, k2, k3, k4, k5, k6, k7⟩
  have hlt1 := g1.lt
  have hlt2 := a3.lt
  obtain ⟨h1, h2, ⟨R0, h3, h3'⟩, h4⟩ := h
  obtain ⟨X0, q1, -, -, -⟩ := h2 i x hi hx
  have l1 := q1.lt
  have l2 := h3.lt
  refine ⟨he, EMem.squared ⟨a1, a2, ⟨R, a3, a3'⟩, a4⟩ hi hx hgr k7 k1 k2 k3 k4 k5 k6, ?_, ?_⟩
  · rw [k7.block _ (by omega) (by omega)]
    exact heap_alloc_new wr o
  · rw [k7.size]; simp

set_option maxRecDepth 100000 in
set_option maxHeartbeats 8000000 in
theorem estimate_any (v : Value) (l : List (Nat × Int)) (W : Nat) (w : World) (hv : TmC w w.heap.size v l) (hn : ∀ x ∈ l, 1 ≤ x.1 ∧ x.1 < 4611686018427387904) (ha : absA l ≤ 1200000000000000000) (hw : wA l ≤ 7900000000000000000)
    (hlen : l.length ≤ 1000) (hW : 1 ≤ W) (hW2 : W ≤ 17592186044416) :
    Calls Tryd.prog 89 #[v, .int .i64 (W : Int)] w fun e w' => ∃ r : Int, e = .returned (.int .i64 r) ∧ EstPost W l r ∧ Below w.heap.size w w' := by
  obtain ⟨A, capv, rfl, hcap, -⟩ := id hv
  have HV := Lib.hid hv
  have HN := Lib.hid hn
  have hs0 := sum0_le (64 * W - 1) l
  have HS0 := Lib.hid hs0
  have HW0 := Lib.hid hw
  clear hv hn hs0 hw
  go_enter Tryd.func89, Tryd.ntmps89
  have hm1 := mkWW l.length (by omega) w
  have hmW := fun W' => mkW W (by omega) W'
  go_wp2_with fail
  go_loopw [5, 6, 19] (fun sv dv iv wr => EaRel w (64 * W - 1) W l sv dv iv wr) (fun _ _ iv _ => l.length - (intOf iv).toNat)
  case atStart => exact ⟨0, Nat.zero_le _, rfl, rfl, rfl, by
      have h := heap_alloc_new w (.cells (List.replicate l.length (Value.slice none 0 0)).toArray 181)
      simpa [topRow] using h, by simp, fun i' x h => absurd h (by omega), (Below.refl _ _).alloc (Nat.le_refl _) _⟩
  case round =>
    obtain ⟨i, hi, rfl, rfl, rfl, htop, hsz, hrows, hb⟩ := hrel
    by_cases hlt : i < l.length
    · obtain ⟨x, hx⟩ : ∃ x, l[i]? = some x := ⟨l[i], List.getElem?_eq_getElem hlt⟩
      have hvr := HV.out.keep hb
      obtain ⟨A', cap', e, -, hh⟩ := hvr
      cases e
      obtain ⟨g, o, rfl, hg, hcells⟩ := hh (by intro e; rw [e] at hlt; simp at hlt)
      obtain ⟨c0, c1⟩ := hcells i x hx
      obtain ⟨n1, n2⟩ := HN.out x (List.mem_of_getElem? hx)
      have hPm := wA_mem (List.mem_of_getElem? hx)
      have hlog := bitLen_log2 (n := x.1) (by omega) (by omega)
      have hlen64 := fun W' => Tryd.bits_Len64 (x.1 : Int) W' (by omega) (by omega)
      rw [Int.toNat_natCast, hlog] at hlen64
      have hq61 := log2_lt62 n1 n2
      have e0 : tmE (64 * W - 1) x.1 0 = Nat.log2 x.1 := rfl
      have e1 : tmM (64 * W - 1) x.1 0 = x.1 * 2 ^ (64 * W - 1 - Nat.log2 x.1) := rfl
      have hpow : x.1 < 2 ^ (Nat.log2 x.1 + 1) := Nat.lt_log2_self
      have E0 := Lib.hid e0
      have E1 := Lib.hid e1
      have HP := Lib.hid hpow
      clear e0 e1 hpow
      generalize Nat.log2 x.1 = q at *
      have hlen64 : ∀ W', Calls Tryd.prog 144 #[.int .u64 (x.1 : Int)] W' fun e w' => e = .returned (.int .i64 ((q : Int) + 1)) ∧ w' = W' := hlen64
      have HLEN := Lib.hid hlen64
      have HTOP := Lib.hid htop
      have HSZ := Lib.hid hsz
      have HROWS := Lib.hid hrows
      have HB := Lib.hid hb
      have HX := Lib.hid hx
      have hiI : (i : Int) < (l.length : Int) := by omega
      clear hlen64 htop hsz hrows hb hx hh hcells hlog
      go_wp2_with fail
      refine (HLEN.out _).mono ?_
      rintro e w2 ⟨he, hw2⟩
      subst he
      have hb2 : Below wr.heap.size wr w2 := by rw [hw2]; exact (Below.refl _ _).alloc (Nat.le_refl _) _
      have hz2 : w2.heap.size = wr.heap.size + 1 := by rw [hw2]; simp
      have hT : w2.heap[wr.heap.size]? = some (.cells #[.int .i64 (x.1 : Int), .int .i64 x.2] 84 (0, 0)) := by rw [hw2]; exact heap_alloc_new _ _
      have hsz := HSZ.out
      have htop2 : w2.heap[w.heap.size]? = some (.cells (topRow w.heap.size W l.length i).toArray 181 (0, 0)) := (hb2.block _ (by omega)).trans HTOP.out
      clear hw2
      obtain ⟨Z, hZ⟩ : ∃ Z : Obj, Z = .cells (zerosW W).toArray 180 := ⟨_, rfl⟩
      have hmW2 := hmW w2
      rw [← hZ] at hmW2
      obtain ⟨w3, hw3⟩ : ∃ w3, w3 = w2.alloc Z := ⟨_, rfl⟩
      rw [← hw3] at hmW2
      have hb3 : Below w2.heap.size w2 w3 := by rw [hw3]; exact (Below.refl _ _).alloc (Nat.le_refl _) _
      have htop3 : w3.heap[w.heap.size]? = some (.cells (topRow w.heap.size W l.length i).toArray 181 (0, 0)) := (hb3.block _ (by omega)).trans htop2
      have hT3 : w3.heap[wr.heap.size]? = some (.cells #[.int .i64 (x.1 : Int), .int .i64 x.2] 84 (0, 0)) := (hb3.block _ (by omega)).trans hT
      have hZ3 : RowW w3 w2.heap.size (List.replicate W 0) := by rw [hw3, hZ]; exact RowW.new w2 W
      have hz3 : w3.heap.size = wr.heap.size + 2 := by rw [hw3]; simp; omega
      have t0 := Go.Joins.cell_of_block htop3 i
      have t1 : w3.frozen? ⟨w.heap.size, i, none⟩ = false := by simp [World.frozen?, htop3]
      have t2 : w3.cell? ⟨w.heap.size, i, none⟩ = some (.slice none 0 0) := by
        rw [t0]
        simp [topRow, show 0 < l.length - i by omega]
      have HSZ2 := Lib.hid hsz
      have HZ2 := Lib.hid hz2
      have HZ3 := Lib.hid hz3
      have HTOP3 := Lib.hid htop3
      have HT3 := Lib.hid hT3
      have HZR := Lib.hid hZ3
      have HB2 := Lib.hid hb2
      have HB3 := Lib.hid hb3
      clear t0 hmW htop2 hT hsz hz2 hz3 htop3 hT3 hZ3 hb2 hb3 hw3 hZ
      obtain ⟨bg, hbg⟩ : ∃ bg, bg = w2.heap.size := ⟨_, rfl⟩
      rw [← hbg] at hmW2
      have HBG := Lib.hid hbg
      clear hbg hm1
      go_wp2_with fail
      obtain ⟨Wp, hWp⟩ : ∃ Wp, W = Wp + 1 := ⟨W - 1, by omega⟩
      obtain ⟨sh, hsh⟩ : ∃ sh, sh + q = 63 := ⟨63 - q, by omega⟩
      have hbg2 : bg = w.heap.size + 2 + 2 * i := by have := HBG.out; have := HZ2.out; have := HSZ.out; omega
      have HBG2 := Lib.hid hbg2
      have HWP := Lib.hid hWp
      have HSH := Lib.hid hsh
      obtain ⟨w4, hw4⟩ : ∃ w4, w4 = w3.setCell ⟨w.heap.size, i, none⟩ (.slice (some ⟨bg, 0, none⟩) W W) := ⟨_, rfl⟩
      rw [← hw4]
      have hsz := HSZ.out
      have hz2 := HZ2.out
      have htop4 : w4.heap[w.heap.size]? = some (.cells (topRow w.heap.size W l.length (i + 1)).toArray 181 (0, 0)) := by
        rw [hw4, ← topRow_set hlt hbg2]
        have h := HTOP3.out
        simp [World.setCell, Array.getElem?_modify, h]
      have hT4 : w4.heap[wr.heap.size]? = some (.cells #[.int .i64 (x.1 : Int), .int .i64 x.2] 84 (0, 0)) := by
        rw [hw4]
        have h := HT3.out
        have hne : w.heap.size ≠ wr.heap.size := by omega
        simp [World.setCell, Array.getElem?_modify, h, hne]
      have hZ4 : RowW w4 bg (List.replicate W 0) := by
        rw [hw4, HBG.out]
        exact HZR.out.other _ (by omega)
      have hb4 : Below w.heap.size w w4 := by
        rw [hw4]
        exact ((HB.out.trans (HB2.out.mono HB.out.size)).trans (HB3.out.mono (Nat.le_trans HB.out.size HB2.out.size))).setCell (p := ⟨w.heap.size, i, none⟩) (Nat.le_refl _) _
      have hz4 : w4.heap.size = wr.heap.size + 2 := by rw [hw4]; simp [World.setCell]; exact HZ3.out
      have hrows4 : RowsOk (64 * W - 1) W l (fun _ => 0) w.heap.size i w4 := by
        intro i' y hi' hy
        obtain ⟨X, g1, g2, g3, g4⟩ := HROWS.out i' y hi' hy
        refine ⟨X, ?_, g2, g3, g4⟩
        have hlt' := g1.lt
        rw [hw4]
        exact ((g1.below HB2.out hlt').below HB3.out (by omega)).other _ (by omega)
      have a0 := Go.Joins.cell_of_block htop4 i
      have a1 := Go.Joins.cell_of_block hT4 0
      have a2 := Go.Joins.cell_of_block hT4 1
      have a0' : w4.cell? ⟨w.heap.size, i, none⟩ = some (.slice (some ⟨bg, 0, none⟩) W W) := by
        rw [a0, HBG2.out]
        simp [topRow, List.getElem?_append_left, sliceAt]
      have a1' : w4.cell? ⟨wr.heap.size, 0, none⟩ = some (.int .i64 (x.1 : Int)) := a1
      have a2' : w4.cell? ⟨wr.heap.size, 1, none⟩ = some (.int .i64 x.2) := a2
      have z0 : w4.cell? ⟨bg, Wp, none⟩ = some (.int .u64 0) := hZ4.cell (x := 0) (by rw [List.getElem?_replicate, if_pos (by omega)])
      have zf := hZ4.frozen Wp
      have HTOP4 := Lib.hid htop4
      have HT4 := Lib.hid hT4
      have HZ4 := Lib.hid hZ4
      have HB4 := Lib.hid hb4
      have HZZ := Lib.hid hz4
      have HR4 := Lib.hid hrows4
      clear a0 a1 a2 htop4 hT4 hZ4 hb4 hz4 hrows4 hw4 hsz hz2 t1 t2 hmW2 hbg2
      have s1 : (W : Int) - 1 = (Wp : Int) := by omega
      have s2 : IntKind.i64.wrap (Wp : Int) = (Wp : Int) := IntWalk.i64_in _ (by omega)
      have s3 : (0 : Int) ≤ (Wp : Int) := Int.natCast_nonneg _
      have s4 : (Wp : Int) < (W : Int) := by omega
      have s5 : 63 - (q : Int) = (sh : Int) := by omega
      have s6 : IntKind.i64.wrap (sh : Int) = (sh : Int) := IntWalk.i64_in _ (by omega)
      have s7 : (0 : Int) ≤ (sh : Int) := Int.natCast_nonneg _
      have s8 : (0 : Int) ≤ (i : Int) := Int.natCast_nonneg _
      have s9 : IntKind.u64.wrap (x.1 : Int) = (x.1 : Int) := by rw [IntKind.wrap_u64]; omega
      clear hWp hsh
      go_still_tail 13, (by kernel_rfl)
      change wpList _ _ _ _ _ w4.drew
      have hm64 : x.1 * 2 ^ sh < 18446744073709551616 := by
        have h1 : x.1 * 2 ^ sh < 2 ^ (q + 1) * 2 ^ sh := Nat.mul_lt_mul_of_pos_right HP.out (Nat.pow_pos (by omega))
        rw [← Nat.pow_add, show q + 1 + sh = 64 by have := HSH.out; omega] at h1
        exact h1
      have r1 : IntKind.u64.wrap ((x.1 : Int) * 2 ^ sh) = ((x.1 * 2 ^ sh : Nat) : Int) := by
        rw [Int.natCast_mul, Int.natCast_pow] at *
        rw [IntKind.wrap_u64]
        have e : ((2 : Nat) : Int) = 2 := rfl
        rw [← e, ← Int.natCast_pow, ← Int.natCast_mul]
        omega
      have hss := sumE_snoc (64 * W - 1) 0 l HX.out
      rw [E0.out] at hss
      have haa := absA_snoc l HX.out
      have hb1 := HS0.out i
      have hb2 := HS0.out (i + 1)
      have hw := HW0.out
      have hab := absA_take l (i + 1)
      have hab0 := absA_nonneg (l.take i)
      obtain ⟨P, hP⟩ : ∃ P : Int, x.2 * (q : Int) = P := ⟨_, rfl⟩
      rw [hP] at hss hPm
      obtain ⟨m0, hm0⟩ : ∃ m0, m0 = x.1 * 2 ^ sh := ⟨_, rfl⟩
      rw [← hm0] at r1 hm64
      generalize hS : sumE (64 * W - 1) 0 (l.take i) = Sv at *
      generalize hS2 : sumE (64 * W - 1) 0 (l.take (i + 1)) = Sv2 at *
      generalize hD : absA (l.take i) = Dv at *
      generalize hD2 : absA (l.take (i + 1)) = Dv2 at *
      have hP1 : -9000000000000000000 ≤ P ∧ P ≤ 9000000000000000000 := by omega
      have hP2 : IntKind.i64.wrap P = P := IntWalk.i64_in _ (by omega)
      have hPS : IntKind.i64.wrap (Sv + P) = Sv2 := by rw [hss]; exact IntWalk.i64_in _ (by omega)
      have hPS2 : Sv + P = Sv2 := hss.symm
      have hx1 : -1200000000000000000 ≤ x.2 ∧ x.2 ≤ 1200000000000000000 := by omega
      obtain ⟨hx1a, hx1b⟩ := hx1
      have hD0 : 0 ≤ Dv := hab0
      have hD1 : Dv ≤ 1200000000000000000 := by omega
      have hZ5 : RowW w4.drew bg (List.replicate W 0) := HZ4.out
      have hb5 : Below w.heap.size w w4.drew := HB4.out.drew
      have htop5 : w4.drew.heap[w.heap.size]? = _ := HTOP4.out
      have hT5 : w4.drew.heap[wr.heap.size]? = _ := HT4.out
      have hr5 : RowsOk (64 * W - 1) W l (fun _ => 0) w.heap.size i w4.drew := HR4.out
      have hz5 : w4.drew.heap.size = wr.heap.size + 2 := HZZ.out
      have z5 : w4.drew.cell? ⟨bg, Wp, none⟩ = some (.int .u64 0) := z0
      have z5f : w4.drew.frozen? ⟨bg, Wp, none⟩ = false := zf
      generalize w4.drew = w5 at *
      have hne1 : wr.heap.size ≠ bg := by have := HBG.out; have := HZ2.out; omega
      have kp1 : ∀ u, (w5.setCell ⟨bg, Wp, none⟩ u).cell? ⟨wr.heap.size, 1, none⟩ = some (.int .i64 x.2) := fun u => by
        rw [World.cell?_setCell_other _ _ _ _ (by intro e; injection e with e; exact hne1 e.symm), Go.Joins.cell_of_block hT5 1]; rfl
      have hZ6 := hZ5.set Wp m0
      have HZ6 := Lib.hid hZ6
      have HB5 := Lib.hid hb5
      have HTOP5 := Lib.hid htop5
      have HR5 := Lib.hid hr5
      have HZ5s := Lib.hid hz5
      have HAA := Lib.hid haa
      have HM0 := Lib.hid hm0
      have HSS := Lib.hid hss
      have HS2 := Lib.hid hS2
      have HD2 := Lib.hid hD2
      clear hZ6 hZ5 hb5 htop5 hr5 hz5 hT5 a0' a1' a2' z0 zf hss haa hm0 hab hb1 hb2 hPm hP1 hw s1 s2 s3 s4 s5 s6 s7 s8 s9 hne1 hS hS2 hD hD2 hPS2
      go_wp2
      refine ⟨⟨i + 1, by omega, by go_num, by rw [HS2.out], ?_, ?_, ?_, ?_, ?_⟩, by simp [intOf]; omega⟩
      · rw [HD2.out, HAA.out]
        congr 1
        omega
      · have hne : bg ≠ w.heap.size := by have := HBG2.out; omega
        have h := HTOP5.out
        show (w5.setCell _ _).heap[w.heap.size]? = _
        rw [← h]
        simp [World.setCell, Array.getElem?_modify, hne]
      · have h1 := HZ5s.out
        have h2 := HSZ.out
        simp [World.setCell]
        omega
      · intro i' y hi' hy
        rcases Nat.lt_or_ge i' i with h | h
        · obtain ⟨X, g1, g2, g3, g4⟩ := HR5.out i' y h hy
          exact ⟨X, g1.other _ (by have := HBG2.out; omega), g2, g3, g4⟩
        · obtain rfl : i' = i := by omega
          rw [HX.out] at hy
          cases hy
          have hW1 := HWP.out
          refine ⟨(List.replicate W 0).set Wp m0, ?_, okW_set (okW_zero W) hm64, by simp, ?_⟩
          · have h := HZ6.out
            rw [HBG2.out] at h
            rw [HBG2.out]
            exact h
          · have he := E1.out
            rw [hW1] at he
            rw [hW1, wv_top, HM0.out]
            exact (top_val HSH.out).trans he.symm
      · exact HB5.out.setCell (p := ⟨bg, Wp, none⟩) (by have := HBG2.out; simp; omega) _
    · obtain rfl : i = l.length := by omega
      rw [List.take_length]
      obtain ⟨gr, hgr⟩ : ∃ gr, gr = wr.heap.size := ⟨_, rfl⟩
      have hgr2 : gr = w.heap.size + 1 + 2 * l.length := by rw [hgr]; exact hsz
      have hm2 : (Instr.makeSlice 181 (.int .i64 (2 * (W : Int))) (.int .i64 (2 * (W : Int)))).run Tryd.prog wr = .ok (.slice (some ⟨gr, 0, none⟩) (2 * W) (2 * W)) (wr.alloc (.cells (zerosW (2 * W)).toArray 180)) := by
        rw [hgr]
        have h := mkW (2 * W) (by omega) wr
        rw [Int.natCast_mul] at h
        exact h
      have hem : EMem w (64 * W - 1) W l (fun _ => 0) gr (wr.alloc (.cells (zerosW (2 * W)).toArray 180)) := by
        have hb1 : Below wr.heap.size wr (wr.alloc (.cells (zerosW (2 * W)).toArray 180)) := (Below.refl _ _).alloc (Nat.le_refl _) _
        refine ⟨(hb1.block _ (by omega)).trans htop, fun i' x hi hx => ?_, ⟨List.replicate (2 * W) 0, by rw [hgr]; exact RowW.new wr (2 * W), by simp⟩, hb.trans (hb1.mono hb.size)⟩
        obtain ⟨X, g1, g2, g3, g4⟩ := hrows i' x hi hx
        exact ⟨X, g1.up hb1, g2, g3, g4⟩
      have HEM := Lib.hid hem
      have HGR := Lib.hid hgr2
      have h64 : 64 * (W : Int) - 1 = ((64 * W - 1 : Nat) : Int) := by omega
      have hA0 := absA_nonneg l
      clear hm1 hmW htop hsz hrows hb hgr hgr2 hem hi hlt
      go_wp2_with fail
      go_loopw [5, 69] (fun sv iv wr2 => EbRel w (64 * W - 1) W l gr sv iv wr2) (fun _ iv _ => 64 * W - 1 - (intOf iv).toNat)
      case atStart => exact ⟨0, Nat.zero_le _, rfl, rfl, fun t' h => absurd h (by omega), HEM.out⟩
      case round =>
        obtain ⟨t, ht, rfl, rfl, hbd, hem⟩ := hrel
        have HBD := Lib.hid hbd
        have HE := Lib.hid hem
        clear hbd hem HEM
        obtain ⟨Sv, hSv⟩ : ∃ Sv, Sv = sumE (64 * W - 1) t l := ⟨_, rfl⟩
        obtain ⟨Da, hDa⟩ : ∃ Da, Da = absA l := ⟨_, rfl⟩
        rw [← hSv]
        rw [← hDa] at hA0 ha ⊢
        have HSV := Lib.hid hSv
        have HDA := Lib.hid hDa
        have HBE := HE.out.2.2.2
        have HB := Lib.hid HBE
        clear hSv hDa HBE
        by_cases hlt : t < 64 * W - 1
        · have hltI : (t : Int) < ((64 * W - 1 : Nat) : Int) := by omega
          by_cases hup : 2 * Da < Sv
          · go_wp2_with fail
            go_ret
            exact ⟨1, rfl, .inl ⟨rfl, t, by omega, by rw [← HSV.out, ← HDA.out]; exact hup⟩, HB.out⟩
          by_cases hdn : Sv < -(2 * Da)
          · go_wp2_with fail
            go_ret
            exact ⟨-1, rfl, .inr (.inl ⟨rfl, t, by omega, by rw [← HSV.out, ← HDA.out]; exact hdn⟩), HB.out⟩
          have hS1 : -2400000000000000000 ≤ Sv := by omega
          have hS2 : Sv ≤ 2400000000000000000 := by omega
          go_wp2_with fail
          go_loopw [5, 82] (fun sv iv wr3 => EcRel w (64 * W - 1) W l gr t sv iv wr3) (fun _ iv _ => l.length - (intOf iv).toNat)
          case atStart => exact ⟨0, Nat.zero_le _, rfl, by rw [← HSV.out, List.take_zero]; congr 1; show Sv * 2 = 2 * Sv + 0; omega, HE.out.first⟩
          case round =>
            obtain ⟨i, hi, rfl, rfl, hem⟩ := hrel
            rw [← HSV.out]
            have hrl := round_le (K := 64 * W - 1) (j := t) (i := i) (l := l) (by rw [← HSV.out, ← HDA.out]; omega) (by rw [← HSV.out, ← HDA.out]; omega)
            rw [← HSV.out, ← HDA.out] at hrl
            by_cases hlt3 : i < l.length
            · obtain ⟨x, hx⟩ : ∃ x, l[i]? = some x := ⟨l[i], List.getElem?_eq_getElem hlt3⟩
              have hvr := HV.out.keep hem.2.2.2
              obtain ⟨A', cap', e, -, hh⟩ := hvr
              cases e
              obtain ⟨g, o, rfl, hg, hcells⟩ := hh (by intro e; rw [e] at hlt3; simp at hlt3)
              obtain ⟨c0, c1⟩ := hcells i x hx
              have hsn := bitS_snoc (64 * W - 1) t l hx
              have hrl2 := round_le (K := 64 * W - 1) (j := t) (i := i + 1) (l := l) (by rw [← HSV.out, ← HDA.out]; omega) (by rw [← HSV.out, ← HDA.out]; omega)
              rw [← HSV.out, ← HDA.out, hsn] at hrl2
              have hcall := fun o' => EMem.call hem hlt3 hx HGR.out hW hW2 o'
              have htopc : ∀ o', (World.alloc _ o').cell? ⟨w.heap.size, i, none⟩ = some (.slice (some ⟨w.heap.size + 2 + 2 * i, 0, none⟩) W W) := fun o' => by
                rw [Go.Joins.cell_of_block (hem.alloc o').1 i]
                simp [topRow, sliceAt, hlt3]
              have HSN := Lib.hid hsn
              have HCALL := Lib.hid hcall
              have hiI : (i : Int) < (l.length : Int) := by omega
              have s8 : (0 : Int) ≤ (i : Int) := Int.natCast_nonneg _
              obtain ⟨Ac, hAc⟩ : ∃ Ac, Ac = 2 * Sv + bitS (64 * W - 1) t (l.take i) := ⟨_, rfl⟩
              rw [← hAc] at hrl ⊢
              have HAC := Lib.hid hAc
              have hr1 := hrl.1
              have hr2 := hrl.2
              clear hcall hem hsn hh hcells hx hAc hrl
              cases hsb : sqB (2 ^ (64 * W - 1)) (tmM (64 * W - 1) x.1 t)
              · rw [hsb] at HSN HCALL
                clear hsb hrl2
                go_wp2_with fail
                refine (HCALL.out _).mono ?_
                rintro e w4 ⟨he, hem4, -, -⟩
                subst he
                have HE4 := Lib.hid hem4
                clear hem4
                go_wp2_with fail
                refine ⟨⟨i + 1, by omega, by go_num, ?_, HE4.out⟩, by simp [intOf]; omega⟩
                have h := HSN.out
                simp only [Bool.false_eq_true, if_false] at h
                rw [← HSV.out, h, HAC.out]
                congr 1; omega
              · rw [hsb] at HSN HCALL
                rw [hsb] at hrl2
                simp only [if_true] at hrl2
                have hr3 : -6000000000000000000 ≤ Ac + x.2 ∧ Ac + x.2 ≤ 6000000000000000000 := by have := HAC.out; omega
                obtain ⟨hr3a, hr3b⟩ := hr3
                clear hsb hrl2
                go_wp2_with fail
                refine (HCALL.out _).mono ?_
                rintro e w4 ⟨he, hem4, hT4, -⟩
                subst he
                have d1 := Go.Joins.cell_of_block hT4 1
                have HE4 := Lib.hid hem4
                clear hem4 hT4
                go_wp2_with fail
                refine ⟨⟨i + 1, by omega, by go_num, ?_, HE4.out⟩, by simp [intOf]; omega⟩
                have h := HSN.out
                simp only [if_true] at h
                rw [← HSV.out, h, HAC.out]
                congr 1; omega
            · obtain rfl : i = l.length := by omega
              rw [List.take_length]
              have hss := sumE_succ (64 * W - 1) t l
              rw [← HSV.out] at hss
              have HSS := Lib.hid hss
              have HE5 := Lib.hid hem.next
              have ht2 : t + 1 ≤ 64 * W - 1 := by omega
              clear hss hem hrl hi hlt3
              go_wp2_with fail
              refine ⟨⟨t + 1, ht2, by go_num, by rw [HSS.out], fun t' h' => ?_, HE5.out⟩, by simp [intOf]; omega⟩
              rcases Nat.lt_or_ge t' t with h | h
              · exact HBD.out t' h
              · obtain rfl : t' = t := by omega
                rw [← HSV.out, ← HDA.out]; omega
        · have hltI : ¬ (t : Int) < ((64 * W - 1 : Nat) : Int) := by omega
          go_wp2_with fail
          go_ret
          refine ⟨0, rfl, .inr (.inr ⟨rfl, fun j hj => HBD.out j (by omega)⟩), HB.out⟩
end Go.Proofs.YtmbcejldifobnaaDoor

namespace Go.Proofs.YtmbcejldifobnaaDoor
open Go.RowKit
def encT (l : List (Nat × Int)) : List Value := l.flatMap fun x => [.int .i64 (x.1 : Int), .int .i64 x.2]
theorem encT_append (l r : List (Nat × Int)) : encT (l ++ r) = encT l ++ encT r := by simp [encT]
theorem encT_len (l : List (Nat × Int)) : (encT l).length = l.length * 2 := by
  induction l with
  | nil => rfl
  | cons x r ih =>
    have e : encT (x :: r) = [.int .i64 (x.1 : Int), .int .i64 x.2] ++ encT r := rfl
    rw [e, List.length_append, ih]; simp; omega
theorem encT_at : ∀ (l : List (Nat × Int)) (k : Nat) (x : Nat × Int), l[k]? = some x → (encT l)[k * 2]? = some (.int .i64 (x.1 : Int)) ∧ (encT l)[k * 2 + 1]? = some (.int .i64 x.2)
  | [], k, x, h => by simp at h
  | y :: r, 0, x, h => by
    simp at h; subst h
    exact ⟨rfl, rfl⟩
  | y :: r, k + 1, x, h => by
    have ih := encT_at r k x (by simpa using h)
    have e : ∀ j, (encT (y :: r))[2 + j]? = (encT r)[j]? := fun j => by
      show ([Value.int .i64 (y.1 : Int), .int .i64 y.2] ++ encT r)[2 + j]? = _
      rw [List.getElem?_append_right (by simp)]
      simp
    rw [show (k + 1) * 2 = 2 + k * 2 by omega, show 2 + k * 2 + 1 = 2 + (k * 2 + 1) by omega, e, e]
    exact ih
theorem one_encT (l : List (Nat × Int)) : ∀ u ∈ encT l, u.oneCell' = true := by
  intro u hu
  simp only [encT, List.mem_flatMap] at hu
  obtain ⟨x, _, hx⟩ := hu
  simp at hx
  rcases hx with rfl | rfl <;> rfl
theorem Tryd.infoT : (Tryd.prog.info? 84).map (fun i => (i.zero, i.size, i.bytes)) = some (some (.agg #[.int .i64 0, .int .i64 0]), 2, 16) := by kernel_rfl
/-- A row of terms that the call owns. -/
def RowT (w : World) (B : Nat) (v : Value) (l : List (Nat × Int)) : Prop := w.ownsRow B 84 2 v l.length (encT l)
theorem RowT.nil (w : World) (B : Nat) : RowT w B (.slice none 0 0) [] := World.ownsRow_nil _ _ _ _
theorem RowT.keep {w w' : World} {B : Nat} {v : Value} {l : List (Nat × Int)} (h : RowT w B v l) (hk : ∀ g, v.ownBlock = some g → w'.heap[g]? = w.heap[g]?) : RowT w' B v l := by
  refine ⟨h.1, ?_⟩
  rcases h.2 with h0 | ⟨g, cap, cur, hv, hb, hg, hr⟩
  · exact .inl h0
  · exact .inr ⟨g, cap, cur, hv, hb, (hk g (by rw [hv]; rfl)).trans hg, hr⟩
theorem RowT.up {w w' : World} {B : Nat} {v : Value} {l : List (Nat × Int)} (h : RowT w B v l) (hb : Below w.heap.size w w') : RowT w' B v l := h.keep fun g hg => hb.block g (h.lt g hg).2
theorem RowT.grown {w w' : World} {B : Nat} {v : Value} {l : List (Nat × Int)} {row : Option Nat} (h : RowT w B v l) (hg : w.grownBy w' row) (hne : ∀ g, v.ownBlock = some g → row ≠ some g) : RowT w' B v l :=
  h.keep fun g e => hg.block g (h.lt g e).2 (fun e2 => hne g e e2.symm)
theorem RowT.form {w : World} {B : Nat} {v : Value} {l : List (Nat × Int)} (h : RowT w B v l) : ∃ A cap, v = .slice A l.length cap ∧ l.length ≤ cap ∧ cap ≤ maxLen ∧ ((A = none ∧ l.length = 0 ∧ cap = 0) ∨ ∃ g, A = some ⟨g, 0, none⟩ ∧ B ≤ g ∧ g < w.heap.size ∧ ∀ k x, l[k]? = some x → w.cell? ⟨g, k * 2, none⟩ = some (.int .i64 (x.1 : Int)) ∧ w.cell? ⟨g, k * 2 + 1, none⟩ = some (.int .i64 x.2)) := by
  rcases h.2 with ⟨hv, h0⟩ | ⟨g, cap, cur, hv, hb, hg, hn, hc, _⟩
  · exact ⟨none, 0, by rw [hv, h0], by omega, by unfold maxLen; omega, .inl ⟨rfl, h0, rfl⟩⟩
  · refine ⟨_, cap, hv, hn, hc, .inr ⟨g, rfl, hb, (h.lt g (by rw [hv]; rfl)).2, fun k x hx => ?_⟩⟩
    obtain ⟨e1, e2⟩ := encT_at l k x hx
    have c := World.ownsRow.cells h (g := g) (by rw [hv]; rfl)
    have c1 := c _ _ e1
    have c2 := c _ _ e2
    rw [add_eq] at c1 c2
    exact ⟨c1, c2⟩
/-- The last term taken off. -/
theorem RowT.pop {w : World} {B g cap : Nat} {l : List (Nat × Int)} {x : Nat × Int} (h : RowT w B (.slice (some ⟨g, 0, none⟩) (l.length + 1) cap) (l ++ [x])) : RowT w B (.slice (some ⟨g, 0, none⟩) l.length cap) l := by
  have h' : w.ownsRow B 84 2 (.slice (some ⟨g, 0, none⟩) (l.length + 1) cap) (l.length + 1) (encT l ++ encT [x]) := by
    have h2 := h
    unfold RowT at h2
    rw [encT_append, List.length_append] at h2
    exact h2
  exact ownsRow_pop (encT_len l) h'
/-- The first k terms. -/
theorem RowT.take {w : World} {B g cap : Nat} {l : List (Nat × Int)} (h : RowT w B (.slice (some ⟨g, 0, none⟩) l.length cap) l) (k : Nat) (hk : k ≤ l.length) : RowT w B (.slice (some ⟨g, 0, none⟩) k cap) (l.take k) := by
  have hl : (l.take k).length = k := by rw [List.length_take]; omega
  refine ⟨by rw [encT_len, hl], .inr ?_⟩
  rcases h.2 with ⟨hv, h0⟩ | ⟨g', cap', cur, hv, hb, hg, hn, hc, hs, ht⟩
  · cases hv
  · cases hv
    refine ⟨g, cap, cur, by rw [hl], hb, hg, by omega, hc, hs, ?_⟩
    rw [hl]
    have e : encT l = encT (l.take k) ++ encT (l.drop k) := by rw [← encT_append, List.take_append_drop]
    rw [e] at ht
    have h3 : (cur.toList.take (l.length * 2)).take (k * 2) = encT (l.take k) := by
      rw [ht]
      have h4 : (encT (l.take k)).length = k * 2 := by rw [encT_len, hl]
      rw [← h4]
      exact take_len _ _
    rw [List.take_take, Nat.min_eq_left (by omega)] at h3
    exact h3
theorem append_terms {ops : Array Oper} {rest : List Oper} {o : Oper} {a : Act} {Q : Exit → Act → World → Prop} {w : World} {B : Nat} (hgd : o.guard = none) (s x : Operand)
    (ho : o.op = .call { callee := .builtin .append, args := #[s, x], argTypes := #[78, 78] }) {v : Value} {l r : List (Nat × Int)} (hs : a.eval s = v) (hown : RowT w B v l)
    (g o' c : Nat) (hx : a.eval x = .slice (some ⟨g, o', none⟩) r.length c) (hcells : ∀ k y, r[k]? = some y → w.cell? ⟨g, o' + k * 2, none⟩ = some (.int .i64 (y.1 : Int)) ∧ w.cell? ⟨g, o' + k * 2 + 1, none⟩ = some (.int .i64 y.2))
    (hm : 0 < r.length) (hn : l.length + r.length ≤ 1000000) (hbase : B ≤ w.heap.size)
    (h : ∀ g' cap w', RowT w' B (.slice (some ⟨g', 0, none⟩) (l.length + r.length) cap) (l ++ r) → w.grownBy w' v.ownBlock → (v.ownBlock = some g' ∨ g' = w.heap.size) → g' < w'.heap.size → wpList Tryd.prog ops Q rest (a.put o.dst (.slice (some ⟨g', 0, none⟩) (l.length + r.length) cap)) w') :
    wpList Tryd.prog ops Q (o :: rest) a w := by
  obtain ⟨i0, hi0, hz0, hz1, hz2⟩ := info_parts Tryd.infoT
  refine wpList_append_lies _ hgd s x 78 ho B 84 i0 _ 2 16 Tryd.underlying78 hi0 hz0 hz1 hz2 rfl (by decide) v l.length (encT l) hs hown ⟨g, o', none⟩ r.length c (encT r) hx (encT_len r) ?_ (one_encT r) hm (by unfold maxLen; omega) (by omega) hbase _ rfl ?_
  · intro j u hu
    have hj : j < (encT r).length := (List.getElem?_eq_some_iff.1 hu).1
    rw [encT_len] at hj
    obtain ⟨y, hy⟩ : ∃ y, r[j / 2]? = some y := ⟨r[j / 2]'(by omega), List.getElem?_eq_getElem (by omega)⟩
    obtain ⟨e1, e2⟩ := encT_at r _ y hy
    obtain ⟨c1, c2⟩ := hcells _ y hy
    have ea : (⟨g, o', none⟩ : Addr).add j = ⟨g, o' + j, none⟩ := by unfold Addr.add; split <;> simp_all
    rw [ea]
    rcases Nat.mod_two_eq_zero_or_one j with hm2 | hm2
    · have : j / 2 * 2 = j := by omega
      rw [this] at e1 c1
      rw [e1] at hu
      cases hu
      exact c1
    · have h1 : j / 2 * 2 + 1 = j := by omega
      have h2 : o' + j / 2 * 2 + 1 = o' + j := by omega
      rw [h1] at e2
      rw [h2] at c2
      rw [e2] at hu
      cases hu
      exact c2
  · intro g' cap w' h2 h3 h4 h5
    refine h g' cap w' ?_ h3 h4 h5
    unfold RowT
    rw [List.length_append, encT_append]
    exact h2
end Go.Proofs.YtmbcejldifobnaaDoor

namespace Go.Proofs.YtmbcejldifobnaaDoor
open Go.RowKit
def optI : Option Value → Int
  | some (.int _ n) => n
  | _ => 0
/-- The terms of a slice, read out of memory. -/
def decT (w : World) : Value → List (Nat × Int)
  | .slice (some a) n _ => (List.range n).map fun k => ((optI (w.cell? ⟨a.block, k * 2, none⟩)).toNat, optI (w.cell? ⟨a.block, k * 2 + 1, none⟩))
  | _ => []
theorem RowT.dec {w : World} {B : Nat} {v : Value} {l : List (Nat × Int)} (h : RowT w B v l) : decT w v = l := by
  obtain ⟨A, cap, rfl, -, -, ⟨rfl, h0, -⟩ | ⟨g, rfl, -, -, hc⟩⟩ := h.form
  · exact (List.eq_nil_of_length_eq_zero h0).symm
  · apply List.ext_getElem?
    intro k
    show ((List.range l.length).map _)[k]? = _
    rw [List.getElem?_map]
    by_cases hk : k < l.length
    · obtain ⟨x, hx⟩ : ∃ x, l[k]? = some x := ⟨l[k], List.getElem?_eq_getElem hk⟩
      obtain ⟨c1, c2⟩ := hc k x hx
      rw [hx, List.getElem?_range hk]
      simp only [Option.map_some, c1, c2, optI, Int.toNat_natCast]
    · rw [List.getElem?_eq_none (l := l) (by omega), List.getElem?_eq_none (l := List.range l.length) (by rw [List.length_range]; omega)]
      rfl
theorem allN_le62 {l : List (Nat × Int)} (h : ∀ x ∈ l, x.1 < 4611686018427387904) : 2 ^ l.length * allN l ≤ 2 ^ (63 * l.length) := by
  induction l with
  | nil => exact Nat.le_refl _
  | cons x r ih =>
    have h1 := ih fun y hy => h y (List.mem_cons_of_mem _ hy)
    have h2 := h x List.mem_cons_self
    have e : 2 ^ (x :: r).length * allN (x :: r) = (2 * x.1) * (2 ^ r.length * allN r) := by
      show 2 ^ (r.length + 1) * (x.1 * allN r) = _
      rw [Nat.pow_succ]; ac_rfl
    rw [e, List.length_cons, Nat.mul_add, Nat.pow_add, Nat.mul_comm (2 ^ (63 * r.length))]
    exact Nat.mul_le_mul (by omega) h1
theorem OneRel.start62 {l : List (Nat × Int)} {B K : Nat} (hn : ∀ x ∈ l, 1 ≤ x.1 ∧ x.1 < 4611686018427387904) (ha : allP l ≤ 2 ^ B) (he : ∀ x ∈ l, x.2.natAbs ≤ B) (hl : 63 * l.length ≤ K) : OneRel l B K l [] :=
  OneRel.start (fun x hx => (hn x hx).1) ha he (Nat.le_trans (allN_le62 fun x hx => (hn x hx).2) (Nat.pow_le_pow_right (by decide) hl))
theorem news_T {w : World} {g o' : Nat} {r : List (Nat × Int)} (hcells : ∀ k y, r[k]? = some y → w.cell? ⟨g, o' + k * 2, none⟩ = some (.int .i64 (y.1 : Int)) ∧ w.cell? ⟨g, o' + k * 2 + 1, none⟩ = some (.int .i64 y.2)) : ∀ j u, (encT r)[j]? = some u → w.cell? ((⟨g, o', none⟩ : Addr).add j) = some u := by
  intro j u hu
  have hj : j < (encT r).length := (List.getElem?_eq_some_iff.1 hu).1
  rw [encT_len] at hj
  obtain ⟨y, hy⟩ : ∃ y, r[j / 2]? = some y := ⟨r[j / 2]'(by omega), List.getElem?_eq_getElem (by omega)⟩
  obtain ⟨e1, e2⟩ := encT_at r _ y hy
  obtain ⟨c1, c2⟩ := hcells _ y hy
  have ea : (⟨g, o', none⟩ : Addr).add j = ⟨g, o' + j, none⟩ := by unfold Addr.add; split <;> simp_all
  rw [ea]
  rcases Nat.mod_two_eq_zero_or_one j with hm2 | hm2
  · have : j / 2 * 2 = j := by omega
    rw [this] at e1 c1
    rw [e1] at hu
    cases hu
    exact c1
  · have h1 : j / 2 * 2 + 1 = j := by omega
    have h2 : o' + j / 2 * 2 + 1 = o' + j := by omega
    rw [h1] at e2
    rw [h2] at c2
    rw [e2] at hu
    cases hu
    exact c2
def IoRel (w : World) (l : List (Nat × Int)) (B : Nat) (rv av : Value) (wr : World) : Prop :=
  ∃ R A, RowT wr w.heap.size rv R ∧ RowT wr w.heap.size av A ∧ OneRel l B 63000 R A ∧ (∀ x ∈ R ++ A, x.1 < 4611686018427387904) ∧ (∀ g, rv.ownBlock = some g → av.ownBlock ≠ some g) ∧ Below w.heap.size w wr
def IiRel (w1 : World) (n : Nat) (A : List (Nat × Int)) (rv0 av0 rv av iv : Value) (wr : World) : Prop :=
  ∃ j : Nat, j ≤ A.length ∧ iv = .int .i64 (j : Int) ∧ rv = rv0 ∧ av = av0 ∧ (∀ y ∈ A.take j, Nat.gcd n y.1 = 1) ∧ Below w1.heap.size w1 wr
theorem append_any {ops : Array Oper} {rest : List Oper} {o : Oper} {a : Act} {Q : Exit → Act → World → Prop} {w : World} {B : Nat} (hgd : o.guard = none) (s x : Operand)
    (ho : o.op = .call { callee := .builtin .append, args := #[s, x], argTypes := #[78, 78] }) {v : Value} {l r : List (Nat × Int)} (hs : a.eval s = v) (hown : RowT w B v l)
    (g o' c : Nat) (hx : a.eval x = .slice (some ⟨g, o', none⟩) r.length c) (hcells : ∀ k y, r[k]? = some y → w.cell? ⟨g, o' + k * 2, none⟩ = some (.int .i64 (y.1 : Int)) ∧ w.cell? ⟨g, o' + k * 2 + 1, none⟩ = some (.int .i64 y.2))
    (hn : l.length + r.length ≤ 1000000) (hbase : B ≤ w.heap.size)
    (h : ∀ v' w', RowT w' B v' (l ++ r) → w.grownBy w' v.ownBlock → (v'.ownBlock = v.ownBlock ∨ v'.ownBlock = some w.heap.size) → wpList Tryd.prog ops Q rest (a.put o.dst v') w') :
    wpList Tryd.prog ops Q (o :: rest) a w := by
  obtain ⟨i0, hi0, hz0, hz1, hz2⟩ := info_parts Tryd.infoT
  refine wpList_append_own_at _ hgd s x 78 ho B 84 i0 _ 2 16 Tryd.underlying78 hi0 hz0 hz1 hz2 rfl (by decide) v l.length (encT l) hs hown ⟨g, o', none⟩ r.length c (encT r) hx (encT_len r) (news_T hcells) (one_encT r) (by unfold maxLen; omega) (by omega) hbase ?_
  intro v' w' h2 h3 _ h5
  refine h v' w' ?_ h3 h5
  unfold RowT
  rw [List.length_append, encT_append]
  exact h2
theorem append_tmc {ops : Array Oper} {rest : List Oper} {o : Oper} {a : Act} {Q : Exit → Act → World → Prop} {w : World} {B : Nat} (hgd : o.guard = none) (s x : Operand)
    (ho : o.op = .call { callee := .builtin .append, args := #[s, x], argTypes := #[78, 78] }) {v : Value} {l : List (Nat × Int)} (hs : a.eval s = .slice none 0 0) (hx : a.eval x = v) (hv : TmC w B v l) (hn : l.length ≤ 1000000)
    (h : ∀ v' w', RowT w' w.heap.size v' l → w.grownBy w' none → wpList Tryd.prog ops Q rest (a.put o.dst v') w') :
    wpList Tryd.prog ops Q (o :: rest) a w := by
  obtain ⟨i0, hi0, hz0, hz1, hz2⟩ := info_parts Tryd.infoT
  obtain ⟨A, cap, rfl, hc, hcells⟩ := hv
  cases A with
  | none =>
    have hl : l = [] := by
      by_cases h0 : l = []
      · exact h0
      · obtain ⟨g, o2, e, -⟩ := hcells h0
        cases e
    subst hl
    have hr : (Builtin.append_ #[78, 78] o.type #[.slice none 0 0, .slice none 0 cap]).run Tryd.prog w = .ok (.slice none 0 0) w := by
      simp [Builtin.append_, run_underlying Tryd.underlying78, sizeOf, typeInfo, hi0, Builtin.lenOf, Builtin.firstCells]
    refine wpList_plain hgd fun K hK => ?_
    unfold Oper.wp execOp
    have hx' : a.eval x = .slice none 0 cap := hx
    simp only [ho, resolve, invoke, builtin, Sem.run_bind, Sem.run_pure, Result.andThen_ok, List.map_toArray, List.map_cons, List.map_nil, hs, hx', hr]
    exact hK _ _ (h _ _ (RowT.nil _ _) (grownBy_refl _ _))
  | some ad =>
    refine wpList_append_own_at _ hgd s x 78 ho w.heap.size 84 i0 _ 2 16 Tryd.underlying78 hi0 hz0 hz1 hz2 rfl (by decide) (.slice none 0 0) 0 [] hs (World.ownsRow_nil _ _ _ _) ad l.length cap (encT l) hx (encT_len l) ?_ (one_encT l) (by unfold maxLen; omega) (by omega) (Nat.le_refl _) ?_
    · by_cases h0 : l = []
      · subst h0; intro j u hu; simp [encT] at hu
      · obtain ⟨g, o2, e, -, hc2⟩ := hcells h0
        cases e
        exact news_T hc2
    · intro v' w' h2 h3 _ _
      refine h v' w' ?_ h3
      have h2 : w'.ownsRow w.heap.size 84 2 v' (0 + l.length) ([] ++ encT l) := h2
      rw [Nat.zero_add, List.nil_append] at h2
      exact h2
theorem mem_mid {R A : List (Nat × Int)} {t y : Nat × Int} (h : y ∈ R ++ A) : y ∈ R ++ [t] ++ A := by
  simp only [List.mem_append] at h ⊢
  rcases h with h | h
  · exact .inl (.inl h)
  · exact .inr h
theorem Io_close {w wr w2 : World} {l : List (Nat × Int)} {B r : Nat} {rv av av2 : Value} {bR : Option Addr} {capR : Nat} {R A R2 A2 : List (Nat × Int)} (h1 : RowT w2 w.heap.size (.slice bR R2.length capR) R2) (h2 : RowT w2 w.heap.size av2 A2) (h3 : OneRel l B 63000 R2 A2)
    (h4 : ∀ x ∈ R2 ++ A2, x.1 < 4611686018427387904) (h5 : ∀ g, (Value.slice bR R2.length capR).ownBlock = some g → av2.ownBlock ≠ some g) (h6 : Below w.heap.size w w2) (h7 : oneM 63000 R2 A2 < oneM 63000 R A) (d1 : decT wr rv = R) (d2 : decT wr av = A) (hr : r = R2.length) :
    IoRel w l B (.slice bR r capR) av2 w2 ∧ oneM 63000 (decT w2 (.slice bR r capR)) (decT w2 av2) < oneM 63000 (decT wr rv) (decT wr av) := by
  subst hr
  exact ⟨⟨R2, A2, h1, h2, h3, h4, h5, h6⟩, by rw [h1.dec, h2.dec, d1, d2]; exact h7⟩
theorem cells_one (w : World) (n : Nat) (x : Int) : ∀ k y, [(n, x)][k]? = some y → (w.alloc (.cells #[.int .i64 (n : Int), .int .i64 x] 84)).cell? ⟨w.heap.size, 0 + k * 2, none⟩ = some (.int .i64 (y.1 : Int)) ∧ (w.alloc (.cells #[.int .i64 (n : Int), .int .i64 x] 84)).cell? ⟨w.heap.size, 0 + k * 2 + 1, none⟩ = some (.int .i64 y.2) := by
  intro k y h
  match k, h with
  | 0, h =>
    simp at h; subst h
    exact ⟨Go.Joins.cell_of_block (heap_alloc_new w _) 0, Go.Joins.cell_of_block (heap_alloc_new w _) 1⟩
set_option maxRecDepth 100000 in
set_option maxHeartbeats 4000000 in
theorem isOne_any (v : Value) (l : List (Nat × Int)) (B : Nat) (w : World) (hv : TmC w w.heap.size v l) (hn : ∀ x ∈ l, 1 ≤ x.1 ∧ x.1 < 4611686018427387904) (ha : allP l ≤ 2 ^ B) (he : ∀ x ∈ l, x.2.natAbs ≤ B) (hB : B ≤ 9200000000000000000) (hlen : l.length ≤ 1000) :
    Calls Tryd.prog 90 #[v] w fun e w' => e = .returned (.bool (decide (sgnP l = 0))) ∧ Below w.heap.size w w' := by
  have hst : OneRel l B 63000 l [] := OneRel.start62 hn ha he (by omega)
  have hpos : posN l := fun x hx => (hn x hx).1
  have HN := Lib.hid fun x hx => (hn x hx).2
  have HST := Lib.hid hst
  have HPOS := Lib.hid hpos
  clear hn ha he hst hpos
  obtain ⟨A, capv, rfl, hcap, -⟩ := id hv
  go_enter Tryd.func90, Tryd.ntmps90
  go_wp2
  go_step3
  go_wp2_with (at_builtin; refine append_tmc rfl (.const (.slice none 0 0)) (.tmp 9) rfl (l := l) rfl rfl hv (by omega) ?_; intro v4 w1 hrow hgr)
  have hb1 : Below w.heap.size w w1 := (Below.refl _ _).grown hgr (Nat.le_refl _) (fun k hk => by cases hk)
  have HROW := Lib.hid hrow
  have HB1 := Lib.hid hb1
  clear hrow hgr hb1 hv hcap
  go_step3
  go_wp2_with fail
  go_loopw [4, 3] (fun rv av wr => IoRel w l B rv av wr) (fun rv av wr => oneM 63000 (decT wr rv) (decT wr av))
  case atStart => exact ⟨l, [], HROW.out, RowT.nil _ _, HST.out, fun x hx => HN.out x (by simpa using hx), fun g _ e => by simp [Value.ownBlock] at e, HB1.out⟩
  case round =>
    clear HROW HB1 HST
    obtain ⟨R, A, hR, hA, hone, hsm, hne, hb⟩ := hrel
    have HONE := Lib.hid hone
    have HSM := Lib.hid hsm
    have HNE := Lib.hid hne
    have HB := Lib.hid hb
    have HA := Lib.hid hA
    have HR := Lib.hid hR
    obtain ⟨bA, capA, rfl, hcA, hmA, hfA⟩ := hA.form
    obtain ⟨bR, capR, rfl, hcR, hmR, hfR⟩ := hR.form
    have hlen2 := hone.len
    have HFA := Lib.hid hfA
    clear hfA hone hsm hne hb hA hR
    rcases List.eq_nil_or_concat R with rfl | ⟨R', ⟨n, x⟩, hRe⟩
    · have e := (HONE.out.done HPOS.out)
      by_cases hAe : A = []
      · subst hAe
        have e2 : decide (sgnP l = 0) = true := by rw [decide_eq_true_iff]; exact e.2 rfl
        have HE := Lib.hid e2
        clear e e2
        go_wp2
        rw [Exit.noGoto_ret]
        go_ret
        exact ⟨by rw [HE.out]; rfl, HB.out⟩
      · have e2 : decide (sgnP l = 0) = false := by rw [decide_eq_false_iff_not]; exact fun h => hAe (e.1 h)
        have hpos := List.length_pos_iff.2 hAe
        have HE := Lib.hid e2
        clear e e2
        go_wp2
        rw [Exit.noGoto_ret]
        go_ret
        exact ⟨by rw [HE.out]; simp; omega, HB.out⟩
    · have hRe : R = R' ++ [(n, x)] := by rw [hRe]; simp
      subst hRe
      have hlR : (R' ++ [(n, x)]).length = R'.length + 1 := by simp
      rw [hlR] at hcR hlen2 hfR
      rcases hfR with ⟨-, h0, -⟩ | ⟨gR, rfl, hgR1, hgR2, hcell⟩
      · omega
      have hR := HR.out
      rw [hlR] at hR
      have hpop := RowT.pop hR
      have HR1 := Lib.hid hpop
      obtain ⟨c0, c1⟩ := hcell R'.length (n, x) (by simp)
      have hne2 : ∀ g, (Value.slice (some ⟨gR, 0, none⟩) R'.length capR).ownBlock = some g → (Value.slice bA A.length capA).ownBlock ≠ some g := fun g e => HNE.out g (by simpa [Value.ownBlock] using e)
      have HNE2 := Lib.hid hne2
      have hdec := HR.out.dec
      rw [hlR] at hdec ⊢
      clear hne2
      clear HR hR hpop hcell HNE hlR
      obtain ⟨r, hr⟩ : ∃ r, r = R'.length := ⟨_, rfl⟩
      have HRL := Lib.hid hr
      rw [← hr] at hcR hlen2 c0 c1 hdec ⊢
      clear hr
      have hn2 := HSM.out (n, x) (by simp)
      have hx2 := HONE.out.exp (n, x) (by simp)
      simp only at hn2 hx2
      have s1 : ((r : Int) + 1) - 1 = (r : Int) := by omega
      have s2 : IntKind.i64.wrap (r : Int) = (r : Int) := IntWalk.i64_in _ (by omega)
      have s3 : (0 : Int) ≤ (r : Int) := Int.natCast_nonneg _
      have s4 : (r : Int) < (r : Int) + 1 := by omega
      have HD1 := Lib.hid hdec
      have HD2 := Lib.hid HA.out.dec
      clear hdec
      by_cases hn1 : n = 1
      · subst hn1
        go_wp2
        exact Io_close (HR1.out.up ((Below.refl _ _).alloc (Nat.le_refl _) _)) (HA.out.up ((Below.refl _ _).alloc (Nat.le_refl _) _)) (HONE.out.drop (.inl rfl)).1 (fun y hy => HSM.out y (mem_mid hy)) HNE2.out (HB.out.alloc HB.out.size _) (HONE.out.drop (.inl rfl)).2 HD1.out HD2.out HRL.out
      by_cases hx0 : x = 0
      · subst hx0
        go_wp2
        exact Io_close (HR1.out.up ((Below.refl _ _).alloc (Nat.le_refl _) _)) (HA.out.up ((Below.refl _ _).alloc (Nat.le_refl _) _)) (HONE.out.drop (.inr rfl)).1 (fun y hy => HSM.out y (mem_mid hy)) HNE2.out (HB.out.alloc HB.out.size _) (HONE.out.drop (.inr rfl)).2 HD1.out HD2.out HRL.out
      have q1 : ((n : Int) == 1) = false := beq_false_of_ne (by omega)
      have q2 : (x == 0) = false := beq_false_of_ne hx0
      go_wp2
      obtain ⟨w2, hw2⟩ : ∃ w2, w2 = wr.alloc (Obj.cells #[Value.int IntKind.i64 ↑n, Value.int IntKind.i64 x] 84) := ⟨_, rfl⟩
      rw [← hw2]
      have hT2 : w2.heap[wr.heap.size]? = some (.cells #[.int .i64 (n : Int), .int .i64 x] 84 (0, 0)) := by rw [hw2]; exact heap_alloc_new _ _
      have hb2 : Below wr.heap.size wr w2 := by rw [hw2]; exact (Below.refl _ _).alloc (Nat.le_refl _) _
      have hz2 : w2.heap.size = wr.heap.size + 1 := by rw [hw2]; simp
      have HT2 := Lib.hid hT2
      have HB2 := Lib.hid hb2
      have HZ2 := Lib.hid hz2
      clear hT2 hb2 hz2 hw2 c0 c1 s1 s2 s3 s4 q1 q2
      obtain ⟨tb, htb⟩ : ∃ tb, tb = wr.heap.size := ⟨_, rfl⟩
      rw [← htb]
      have HTB := Lib.hid htb
      clear htb
      go_loopw [4, 3, 35] (fun rv av iv wv => IiRel w2 n A (.slice (some ⟨gR, 0, none⟩) r capR) (.slice bA A.length capA) rv av iv wv) (fun _ _ iv _ => A.length - (intOf iv).toNat)
      case atStart => exact ⟨0, Nat.zero_le _, rfl, rfl, rfl, fun y hy => (by cases hy), Below.refl _ _⟩
      case round =>
        obtain ⟨j, hj, rfl, rfl, rfl, hcop, hb3⟩ := hrel
        have HCOP := Lib.hid hcop
        have HB3 := Lib.hid hb3
        have ht3 : wr.heap[tb]? = some (.cells #[.int .i64 (n : Int), .int .i64 x] 84 (0, 0)) := by
          rw [HTB.out]
          exact (hb3.block _ (by have := HZ2.out; omega)).trans HT2.out
        have k0 : wr.cell? ⟨tb, 0, none⟩ = some (.int .i64 (n : Int)) := Go.Joins.cell_of_block ht3 0
        have k1 : wr.cell? ⟨tb, 1, none⟩ = some (.int .i64 x) := Go.Joins.cell_of_block ht3 1
        have HT3 := Lib.hid ht3
        clear hcop hb3 ht3
        by_cases hjl : j < A.length
        · have hA3 : RowT wr w.heap.size (.slice bA A.length capA) A := (HA.out.up HB2.out).up HB3.out
          obtain ⟨bA', cap', e, -, -, hf⟩ := hA3.form
          cases e
          rcases hf with ⟨-, h0, -⟩ | ⟨gA, rfl, hgA1, hgA2, hcellA⟩
          · omega
          obtain ⟨y, hy⟩ : ∃ y, A[j]? = some y := ⟨A[j], List.getElem?_eq_getElem hjl⟩
          obtain ⟨m0, m1⟩ := hcellA j y hy
          obtain ⟨m, z⟩ := y
          simp only at m0 m1
          have hm2 := HSM.out (m, z) (by simp [List.mem_of_getElem? hy])
          simp only at hm2
          have hgcd := fun W' => gcd_int64 (n : Int) (m : Int) 4611686018427387904 W' (by omega) (by omega) (by omega) (by omega) (by omega)
          simp only [Int.natAbs_natCast] at hgcd
          obtain ⟨d, hd⟩ : ∃ d, d = Nat.gcd n m := ⟨_, rfl⟩
          rw [← hd] at hgcd
          have htb3 : tb < wr.heap.size := by have := HTB.out; have := HZ2.out; have := HB3.out.size; omega
          have htb4 : tb ≠ wr.heap.size := by omega
          have hjI : (j : Int) < (A.length : Int) := by omega
          have HY := Lib.hid hy
          have HDD := Lib.hid hd
          have HA3 := Lib.hid hA3
          have HCA := Lib.hid hcellA
          have HG := Lib.hid hgcd
          clear hy hd hA3 hcellA hgcd
          go_wp2_with fail
          refine (HG.out _).mono ?_
          rintro e w3 ⟨he, hdr⟩
          subst he
          obtain ⟨ub, hub⟩ : ∃ ub, ub = wr.heap.size := ⟨_, rfl⟩
          rw [← hub] at htb3 htb4 ⊢
          have hU3 : w3.heap[ub]? = some (.cells #[.int .i64 (m : Int), .int .i64 z] 84 (0, 0)) := by
            rw [hub]
            exact (hdr.below.block _ (by simp)).trans (heap_alloc_new _ _)
          have hB3 : Below wr.heap.size wr w3 := ((Below.refl _ _).alloc (Nat.le_refl _) _).trans (hdr.below.mono (by simp))
          have hz3 : w3.heap.size = ub + 1 := by rw [hdr.size, hub]; simp
          have hT3' : w3.heap[tb]? = some (.cells #[.int .i64 (n : Int), .int .i64 x] 84 (0, 0)) := (hB3.block _ (by omega)).trans HT3.out
          have t0 : w3.cell? ⟨tb, 0, none⟩ = some (.int .i64 (n : Int)) := Go.Joins.cell_of_block hT3' 0
          have t1 : w3.cell? ⟨tb, 1, none⟩ = some (.int .i64 x) := Go.Joins.cell_of_block hT3' 1
          have v0 : w3.cell? ⟨ub, 0, none⟩ = some (.int .i64 (m : Int)) := Go.Joins.cell_of_block hU3 0
          have v1 : w3.cell? ⟨ub, 1, none⟩ = some (.int .i64 z) := Go.Joins.cell_of_block hU3 1
          have HUB := Lib.hid hub
          have HU3 := Lib.hid hU3
          have HT3' := Lib.hid hT3'
          have HB3' := Lib.hid hB3
          have HZ3 := Lib.hid hz3
          clear hdr hub hU3 hB3 hz3 hT3' k0 k1 m0 m1 HT3
          have hdpos : 1 ≤ d := by rw [HDD.out]; exact Nat.gcd_pos_of_pos_left _ (by have := HONE.out.pos (n, x) (by simp); simp only at this; omega)
          by_cases hd2 : 2 ≤ d
          · have hd3 : (1 : Int) < (d : Int) := by omega
            have a1 : (0 : Int) ≤ (j : Int) := Int.natCast_nonneg _
            have a2 : (j : Int) ≤ (capA : Int) := by omega
            obtain ⟨j1, hj1⟩ : ∃ j1, j1 = j + 1 := ⟨_, rfl⟩
            have a3 : (j : Int) + 1 = (j1 : Int) := by omega
            have a4 : IntKind.i64.wrap (j1 : Int) = (j1 : Int) := IntWalk.i64_in _ (by omega)
            have a5 : (j1 : Int) ≤ (A.length : Int) := by omega
            have a6 : (0 : Int) ≤ (j1 : Int) := Int.natCast_nonneg _
            have a7 : (A.length : Int) ≤ (capA : Int) := by omega
            have HJ1 := Lib.hid hj1
            clear hj1
            go_wp2
            go_still_tail 7, (by kernel_rfl)
            change wpList _ _ _ _ _ w3.drew
            have hA4 : RowT w3.drew w.heap.size (.slice (some ⟨gA, 0, none⟩) A.length capA) A := HA3.out.up HB3'.out.drew
            have hR4 : RowT w3.drew w.heap.size (.slice (some ⟨gR, 0, none⟩) R'.length capR) R' := ((HR1.out.up HB2.out).up HB3.out).up HB3'.out.drew
            have hT4 : w3.drew.heap[tb]? = some (.cells #[.int .i64 (n : Int), .int .i64 x] 84 (0, 0)) := HT3'.out
            have hU4 : w3.drew.heap[ub]? = some (.cells #[.int .i64 (m : Int), .int .i64 z] 84 (0, 0)) := HU3.out
            have hz4 : w3.drew.heap.size = ub + 1 := HZ3.out
            have hb4 : Below w.heap.size w w3.drew := by
              have h1 : Below w.heap.size w wr := (HB.out.trans (HB2.out.mono HB.out.size)).trans (HB3.out.mono (Nat.le_trans HB.out.size HB2.out.size))
              exact (h1.trans (HB3'.out.mono h1.size)).drew
            have hgAt : gA < tb := by rw [HTB.out]; exact (HA.out.lt gA rfl).2
            have hgRt : gR < tb := by rw [HTB.out]; exact hgR2
            have hwt : w.heap.size ≤ tb := by rw [HTB.out]; exact HB.out.size
            have hAform := hA4.form
            generalize w3.drew = w4 at *
            obtain ⟨_, _, e4, -, -, hf4⟩ := hAform
            cases e4
            have hcell4 : ∀ k y, A[k]? = some y → w4.cell? ⟨gA, k * 2, none⟩ = some (.int .i64 (y.1 : Int)) ∧ w4.cell? ⟨gA, k * 2 + 1, none⟩ = some (.int .i64 y.2) := by
              rcases hf4 with ⟨h, -⟩ | ⟨g4, e4, -, -, hc⟩
              · cases h
              · cases e4; exact hc
            have HC4 := Lib.hid hcell4
            have HA4 := Lib.hid hA4
            have HR4 := Lib.hid hR4
            have HT4 := Lib.hid hT4
            have HU4 := Lib.hid hU4
            have HZ4 := Lib.hid hz4
            have HB4 := Lib.hid hb4
            clear hcell4 hf4 hA4 hR4 hT4 hU4 hz4 hb4 t0 t1 v0 v1
            refine append_any rfl (.tmp 49) (.tmp 53) rfl (v := .slice (some ⟨gA, 0, none⟩) j capA) (l := A.take j) (r := A.drop j1) rfl (HA4.out.take j (by omega)) gA (if capA = j1 then 0 else j1 * 2) (capA - j1) ?_ ?_ ?_ (by have := HZ4.out; omega) ?_
            · show Value.slice (if capA = j1 then some ⟨gA, 0, none⟩ else some ⟨gA, j1 * 2, none⟩) (A.length - j1) _ = _
              rw [List.length_drop]
              congr 1
              split <;> rfl
            · intro k y hy
              rw [List.getElem?_drop] at hy
              have hk := (List.getElem?_eq_some_iff.1 hy).1
              rw [if_neg (by omega)]
              have h := HC4.out (j1 + k) y hy
              rw [Nat.add_mul] at h
              exact h
            · rw [List.length_take, List.length_drop]; omega
            intro v5 w5 hrow5 hgr5 hat5
            generalize (if capA = j1 then (some ⟨gA, 0, none⟩ : Option Addr) else some ⟨gA, j1 * 2, none⟩) = ad5
            have hsz5 := hgr5.size
            have hT5 : w5.heap[tb]? = some (.cells #[.int .i64 (n : Int), .int .i64 x] 84 (0, 0)) := (hgr5.block tb (by have := HZ4.out; omega) (by intro e; simp [Value.ownBlock] at e; omega)).trans HT4.out
            have hU5 : w5.heap[ub]? = some (.cells #[.int .i64 (m : Int), .int .i64 z] 84 (0, 0)) := (hgr5.block ub (by have := HZ4.out; omega) (by intro e; simp [Value.ownBlock] at e; omega)).trans HU4.out
            have hR5 : RowT w5 w.heap.size (.slice (some ⟨gR, 0, none⟩) R'.length capR) R' := HR4.out.grown hgr5 HNE2.out
            have hb5 : Below w.heap.size w w5 := HB4.out.grown hgr5 HB4.out.size (fun k hk => by simp [Value.ownBlock] at hk; omega)
            have hA12 : A = A.take j ++ (m, z) :: A.drop j1 := by
              have e1 : A.drop j = (m, z) :: A.drop j1 := by
                rw [HJ1.out, List.drop_eq_getElem_cons hjl]
                congr 1
                have h := HY.out
                rw [List.getElem?_eq_getElem hjl] at h
                exact Option.some.inj h
              rw [← e1, List.take_append_drop]
            have hspl := HONE.out
            rw [hA12] at hspl
            have hspl := hspl.split HDD.out hd2
            have hsx := hspl.1.exp (d, x + z) (by simp)
            simp only at hsx
            rw [← hA12] at hspl
            have HSPL := Lib.hid hspl
            have HA12 := Lib.hid hA12
            have HROW5 := Lib.hid hrow5
            have HAT5 := Lib.hid hat5
            have HR5 := Lib.hid hR5
            have HB5 := Lib.hid hb5
            have t0 : w5.cell? ⟨tb, 0, none⟩ = some (.int .i64 (n : Int)) := Go.Joins.cell_of_block hT5 0
            have t1 : w5.cell? ⟨tb, 1, none⟩ = some (.int .i64 x) := Go.Joins.cell_of_block hT5 1
            have v0 : w5.cell? ⟨ub, 0, none⟩ = some (.int .i64 (m : Int)) := Go.Joins.cell_of_block hU5 0
            have v1 : w5.cell? ⟨ub, 1, none⟩ = some (.int .i64 z) := Go.Joins.cell_of_block hU5 1
            obtain ⟨nd, hnd⟩ : ∃ nd, nd = n / d := ⟨_, rfl⟩
            obtain ⟨md, hmd⟩ : ∃ md, md = m / d := ⟨_, rfl⟩
            have hnd1 : (n : Int).tdiv (d : Int) = (nd : Int) := by rw [hnd]; exact (Int.ofNat_tdiv n d).symm
            have hmd1 : (m : Int).tdiv (d : Int) = (md : Int) := by rw [hmd]; exact (Int.ofNat_tdiv m d).symm
            have hnd2 : nd ≤ n := by rw [hnd]; exact Nat.div_le_self _ _
            have hmd2 : md ≤ m := by rw [hmd]; exact Nat.div_le_self _ _
            have hnd3 : IntKind.i64.wrap (nd : Int) = (nd : Int) := IntWalk.i64_in _ (by omega)
            have hmd3 : IntKind.i64.wrap (md : Int) = (md : Int) := IntWalk.i64_in _ (by omega)
            have hd0 : ((d : Int) == 0) = false := beq_false_of_ne (by omega)
            have hdN : ¬ d = 0 := by omega
            have hdI : ¬ (d : Int) = 0 := by omega
            obtain ⟨S, hS⟩ : ∃ S : Int, x + z = S := ⟨_, rfl⟩
            rw [hS] at hsx
            have hS1 : IntKind.i64.wrap S = S := IntWalk.i64_in _ (by omega)
            have HND := Lib.hid hnd
            have HMD := Lib.hid hmd
            have HSS := Lib.hid hS
            clear hspl hA12 hrow5 hat5 hR5 hb5 hT5 hU5 hnd hmd a1 a2 a3 a4 a5 a6 a7 hd3
            have htb5 : tb < w5.heap.size := by have := HZ4.out; omega
            have hub5 : ub < w5.heap.size := by have := HZ4.out; omega
            have hTg : gR ≠ tb := by omega
            have hUg : gR ≠ ub := by omega
            have kp : ∀ (o : Obj) (a : Addr), a.block < w5.heap.size → (w5.drew.alloc o).cell? a = w5.cell? a := fun o a ha => (((Below.refl _ w5).drew).alloc (Nat.le_refl _) o).cell ha
            have KP := Lib.hid kp
            have hrr : ∀ o : Obj, (w5.drew.alloc o).ownsRow w.heap.size 84 2 (.slice (some ⟨gR, 0, none⟩) r capR) r (encT R') := fun o => by
              have h : RowT (w5.drew.alloc o) w.heap.size (.slice (some ⟨gR, 0, none⟩) R'.length capR) R' := HR5.out.up (((Below.refl _ w5).drew).alloc (Nat.le_refl _) o)
              rw [HRL.out]
              exact h
            have HRR := Lib.hid hrr
            obtain ⟨i0, hi0, hz0, hz1, hz2⟩ := info_parts Tryd.infoT
            have hsw : w.heap.size ≤ w5.heap.size := by omega
            clear kp hrr
            go_wp2_with fail
            go_region_held3 (fun w' => w'.cell? ⟨tb, 0, none⟩ = some (.int .i64 (n : Int)) ∧ w'.cell? ⟨tb, 1, none⟩ = some (.int .i64 x) ∧ w'.cell? ⟨ub, 0, none⟩ = some (.int .i64 (m : Int)) ∧ w'.cell? ⟨ub, 1, none⟩ = some (.int .i64 z))
              (first
                | (refine ⟨?_, ?_, ?_, ?_⟩ <;> with_reducible assumption)
                | exact ⟨(KP.out _ _ htb5).trans t0, (KP.out _ _ htb5).trans t1, (KP.out _ _ hub5).trans v0, (KP.out _ _ hub5).trans v1⟩
                | exact ⟨p0, p1, p2, p3⟩
                | go_keep)
              ((refine step_append_lies _ (by rfl) _ _ _ (by rfl) w.heap.size 84 i0 _ 2 16 Tryd.underlying78 hi0 hz0 hz1 hz2 rfl (by omega) (.slice (some ⟨gR, 0, none⟩) r capR) r (encT R') (by rfl) (HRR.out _) ⟨w5.heap.size, 0, none⟩ 3 3 (encT [(nd, x), (md, z), (d, S)]) (by rfl) (by rfl) (World.news_of_block (cs := #[.int .i64 (nd : Int), .int .i64 x, .int .i64 (md : Int), .int .i64 z, .int .i64 (d : Int), .int .i64 S]) (t := 84) (fr := (0, 0)) (heap_alloc_new w5.drew _)) (one_encT _) (by omega) (by unfold maxLen; omega) (by omega) (by simp; omega) (w5.heap.size + 1) (by simp) ?_; intro g7 cap7 w7 hown7 hgr7 hat7 hg7; have p0 := (hgr7.cell_far ⟨tb, 0, none⟩ (by simp; omega) (by simp [Value.ownBlock]; omega)).trans ((KP.out _ _ htb5).trans t0); have p1 := (hgr7.cell_far ⟨tb, 1, none⟩ (by simp; omega) (by simp [Value.ownBlock]; omega)).trans ((KP.out _ _ htb5).trans t1); have p2 := (hgr7.cell_far ⟨ub, 0, none⟩ (by simp; omega) (by simp [Value.ownBlock]; omega)).trans ((KP.out _ _ hub5).trans v0); have p3 := (hgr7.cell_far ⟨ub, 1, none⟩ (by simp; omega) (by simp [Value.ownBlock]; omega)).trans ((KP.out _ _ hub5).trans v1)))
            go_wp2
            have hz4' := HZ4.out
            have hv5 : ∀ g6, gR = g6 → v5.ownBlock ≠ some g6 := by
              intro g6 e6 e7
              rcases HAT5.out with h | h
              · exact HNE2.out g6 (by rw [← e6]; rfl) (h.symm.trans e7)
              · rw [e7] at h
                have h := Option.some.inj h
                omega
            have hspl := HSPL.out
            rw [← HND.out, ← HMD.out, HSS.out] at hspl
            have hgd : d ≤ n := by rw [HDD.out]; exact Nat.gcd_le_left _ (by have := HONE.out.pos (n, x) (by simp); simp only at this; omega)
            have hr7 : RowT w7 w.heap.size (.slice (some ⟨g7, 0, none⟩) (R' ++ [(nd, x), (md, z), (d, S)]).length cap7) (R' ++ [(nd, x), (md, z), (d, S)]) := by
              unfold RowT
              rw [encT_append, List.length_append, ← HRL.out]
              exact hown7
            have hv7 : RowT w7 w.heap.size v5 (A.take j ++ A.drop j1) := (HROW5.out.up (((Below.refl _ w5).drew).alloc (Nat.le_refl _) _)).grown hgr7 (fun g6 e6 e7 => hv5 g6 (Option.some.inj e7) e6)
            refine Io_close hr7 hv7 hspl.1 (fun y hy => ?_) ?_ (((HB5.out.drew).alloc hsw _).grown hgr7 (by rw [World.size_alloc]; show w.heap.size ≤ w5.heap.size + 1; omega) (fun k hk => by simp [Value.ownBlock] at hk; omega)) hspl.2 HD1.out HD2.out (by rw [List.length_append, ← HRL.out]; rfl)
            · simp only [List.mem_append, List.mem_cons, List.not_mem_nil, or_false] at hy
              rcases hy with (h | rfl | rfl | rfl) | h | h
              · exact HSM.out y (by simp [h])
              · exact Nat.lt_of_le_of_lt hnd2 hn2
              · exact Nat.lt_of_le_of_lt hmd2 hm2
              · exact Nat.lt_of_le_of_lt hgd hn2
              · exact HSM.out y (by simp [List.mem_of_mem_take h])
              · exact HSM.out y (by simp [List.mem_of_mem_drop h])
            · intro g6 e6 e7
              have e6 : g7 = g6 := by simpa [Value.ownBlock] using e6
              rcases hat7 with h | h
              · have h : gR = g7 := by simpa [Value.ownBlock] using h
                exact hv5 g6 (h.trans e6) e7
              · have := (HROW5.out.lt g6 e7).2
                omega
          · obtain rfl : d = 1 := by omega
            go_wp2
            refine ⟨⟨j + 1, by omega, by go_num, rfl, rfl, ?_, HB3.out.trans (HB3'.out.mono HB3.out.size)⟩, by simp [intOf]; omega⟩
            intro y hy
            rw [List.take_add_one, HY.out, List.mem_append] at hy
            rcases hy with h | h
            · exact HCOP.out y h
            · simp at h
              subst h
              exact HDD.out.symm
        · obtain rfl : j = A.length := by omega
          have hcopA : ∀ y ∈ A, Nat.gcd n y.1 = 1 := fun y hy => HCOP.out y (by rw [List.take_length]; exact hy)
          have hn2' : 2 ≤ n := by have := HONE.out.pos (n, x) (by simp); simp only at this; omega
          have hmv := HONE.out.move hn2' hx0 hcopA
          have HMV := Lib.hid hmv
          have hA3 : RowT wr w.heap.size (.slice bA A.length capA) A := (HA.out.up HB2.out).up HB3.out
          have hR3 : RowT wr w.heap.size (.slice (some ⟨gR, 0, none⟩) R'.length capR) R' := (HR1.out.up HB2.out).up HB3.out
          have HR3 := Lib.hid hR3
          have HW : Below w.heap.size w wr := (HB.out.trans (HB2.out.mono HB.out.size)).trans (HB3.out.mono (Nat.le_trans HB.out.size HB2.out.size))
          have HWW := Lib.hid HW
          clear hmv hcopA hR3 HW
          go_wp2_with (at_builtin; refine append_terms rfl (.tmp 80) (.tmp 82) rfl (l := A) (r := [(n, x)]) (v := .slice bA A.length capA) rfl (hA3.up ((Below.refl _ _).alloc (Nat.le_refl _) _)) wr.heap.size 0 1 rfl (cells_one wr n x) (by simp) (by simp; omega) (by have := HWW.out.size; rw [World.size_alloc]; omega) ?_; intro g5 cap5 w5 hrow5 hgr5 hat5 hg5)
          obtain ⟨w4, hw4⟩ : ∃ w4, w4 = wr.alloc (Obj.cells #[Value.int IntKind.i64 ↑n, Value.int IntKind.i64 x] 84) := ⟨_, rfl⟩
          rw [← hw4] at hgr5 hat5
          have hb4 : Below wr.heap.size wr w4 := by rw [hw4]; exact (Below.refl _ _).alloc (Nat.le_refl _) _
          have hz4 : w4.heap.size = wr.heap.size + 1 := by rw [hw4]; simp
          have hsz0 := HB2.out.size
          have hsz1 := HB3.out.size
          refine Io_close ((HR3.out.up hb4).grown hgr5 HNE2.out) hrow5 HMV.out.1 (fun y hy => HSM.out y ?_) ?_ ((HWW.out.trans (hb4.mono HWW.out.size)).grown hgr5 (by have := HWW.out.size; omega) (fun k hk => (hA3.lt k hk).1)) HMV.out.2 HD1.out HD2.out HRL.out
          · simp only [List.mem_append] at hy ⊢
            rcases hy with h | h | h
            · exact .inl (.inl h)
            · exact .inr h
            · exact .inl (.inr h)
          · intro g6 e6 e7
            rcases hat5 with h | h
            · exact HNE2.out g6 e6 (h.trans e7)
            · simp [Value.ownBlock] at e6 e7
              omega
end Go.Proofs.YtmbcejldifobnaaDoor

namespace Go.Proofs.YtmbcejldifobnaaDoor
open Go.RowKit
theorem TmC.up {w w' : World} {v : Value} {l : List (Nat × Int)} (h : TmC w w.heap.size v l) (hb : Below w.heap.size w w') : TmC w' w'.heap.size v l := by
  obtain ⟨A, cap, e, hc, hh⟩ := h.keep hb
  refine ⟨A, cap, e, hc, fun hne => ?_⟩
  obtain ⟨g, o, e2, hg, hx⟩ := hh hne
  exact ⟨g, o, e2, Nat.lt_of_lt_of_le hg hb.size, hx⟩
/-- The estimate of a list that is in the bounds. -/
theorem est_ok {l : List (Nat × Int)} {k : Nat} (h : SignOk l k) {v : Value} (W : Nat) (w : World) (hv : TmC w w.heap.size v l) (hW : 1 ≤ W) (hW2 : W ≤ 17592186044416) :
    Calls Tryd.prog 89 #[v, .int .i64 (W : Int)] w fun e w' => ∃ r : Int, e = .returned (.int .i64 r) ∧ ((r ≠ 0 → r = sgnP l) ∧ (sgnP l = 0 → r = 0) ∧ (sgnP l ≠ 0 → 2 ^ k ≤ W → r ≠ 0)) ∧ Below w.heap.size w w' := by
  refine (estimate_any v l W w hv h.n (by rw [absA_nA]; have := h.a; omega) h.w h.len hW hW2).mono ?_
  rintro e w' ⟨r, he, hr, hb⟩
  exact ⟨r, he, ⟨est_sound (h.good hW) hr, est_zero (h.good hW) hr, fun hs hk => h.enough hk hr hs⟩, hb⟩
def SgRel (w : World) (l : List (Nat × Int)) (k : Nat) (sv wv : Value) (wr : World) : Prop :=
  ∃ (j : Nat) (r : Int), wv = .int .i64 ((2 ^ j : Nat) : Int) ∧ sv = .int .i64 r ∧ 1 ≤ j ∧ j ≤ k + 1 ∧ (r ≠ 0 → r = sgnP l) ∧ (r = 0 → j ≤ k) ∧ Below w.heap.size w wr
theorem two_le44 {j : Nat} (h : j ≤ 44) : 2 ^ j ≤ 17592186044416 := Nat.le_trans (Nat.pow_le_pow_right (by decide) h) (by decide)
set_option maxRecDepth 100000 in
set_option maxHeartbeats 2000000 in
theorem sign_any (v : Value) (l : List (Nat × Int)) (k : Nat) (w : World) (hv : TmC w w.heap.size v l) (h : SignOk l k) :
    Calls Tryd.prog 41 #[v] w fun e w' => e = .returned (.int .i64 (sgnP l)) ∧ Below w.heap.size w w' := by
  have hest := est_ok h 1 w hv (by omega) (by omega)
  obtain ⟨B, hB⟩ : ∃ B, B = 9200000000000000000 := ⟨_, rfl⟩
  have hone := fun W hW => isOne_any v l B W hW h.n (h.all (by omega)) (fun x hx => by have := nA_mem hx; have := h.a; omega) (by omega) h.len
  clear hB
  have hesw := fun (W : Nat) W' hW' => est_ok h (v := v) W W' hW'
  have HEST := Lib.hid hest
  have HONE := Lib.hid hone
  have HESW := Lib.hid hesw
  have HV := Lib.hid hv
  have hk44 := h.k
  clear hest hone hesw hv h
  go_enter Tryd.func41, Tryd.ntmps41
  go_wp2_with fail
  refine HEST.out.mono ?_
  rintro e w1 ⟨r, he, ⟨p1, p2, p3⟩, hb1⟩
  subst he
  by_cases hr : r = 0
  · subst hr
    have HB1 := Lib.hid hb1
    clear hb1 p1
    go_wp2_with fail
    refine (HONE.out w1 (HV.out.up HB1.out)).mono ?_
    rintro e w2 ⟨he, hb2⟩
    subst he
    have hB2 : Below w.heap.size w w2 := HB1.out.trans (hb2.mono HB1.out.size)
    have HB2 := Lib.hid hB2
    clear hb2 hB2
    by_cases hs : sgnP l = 0
    · have hd : decide (sgnP l = 0) = true := by rw [decide_eq_true_iff]; exact hs
      rw [hd]
      have HS := Lib.hid hs
      clear hs hd p2 p3
      go_wp2
      go_ret
      exact ⟨by rw [HS.out]; rfl, HB2.out⟩
    · have hd : decide (sgnP l = 0) = false := by rw [decide_eq_false_iff_not]; exact hs
      rw [hd]
      have hk1 : 1 ≤ k := by
        rcases Nat.eq_zero_or_pos k with h | h
        · exact absurd rfl (p3 hs (by rw [h]; decide))
        · exact h
      have HS := Lib.hid hs
      clear hs hd p2 p3
      go_wp2
      go_loopw [3, 4] (fun sv wv wr => SgRel w l k sv wv wr) (fun _ wv _ => 70368744177664 - (intOf wv).toNat)
      case atStart => exact ⟨1, 0, rfl, rfl, Nat.le_refl _, by omega, fun h => absurd rfl h, fun _ => hk1, HB2.out⟩
      case round =>
        obtain ⟨j, r, rfl, rfl, hj1, hj2, hr1, hr2, hb⟩ := hrel
        by_cases hr : r = 0
        · subst hr
          have hjk := hr2 rfl
          have hw := two_le44 (j := j) (by omega)
          have hpos : 1 ≤ 2 ^ j := Nat.pow_pos (by omega)
          have hnext : 2 ^ (j + 1) = 2 ^ j * 2 := Nat.pow_succ 2 j
          have hpk : k < j + 1 → 2 ^ k ≤ 2 ^ j := fun h => Nat.pow_le_pow_right (by decide) (by omega)
          obtain ⟨P, hP⟩ : ∃ P, P = 2 ^ j := ⟨_, rfl⟩
          rw [← hP] at hw hpos hnext hpk ⊢
          have HP := Lib.hid hP
          have HNX := Lib.hid hnext
          have HPK := Lib.hid hpk
          have HB := Lib.hid hb
          clear hP hnext hpk hb hr1 hr2
          go_wp2_with fail
          refine (HESW.out P wr (HV.out.up HB.out) hpos hw).mono ?_
          rintro e w3 ⟨r3, he, ⟨q1, q2, q3⟩, hb3⟩
          subst he
          have hm1 : (P : Int) * 2 = ((P * 2 : Nat) : Int) := by omega
          obtain ⟨P2, hP2⟩ : ∃ P2, P2 = P * 2 := ⟨_, rfl⟩
          rw [← hP2] at hm1
          have hm2 : IntKind.i64.wrap (P2 : Int) = (P2 : Int) := IntWalk.i64_in _ (by omega)
          have Q1 := Lib.hid q1
          have Q3 := Lib.hid q3
          have HP2 := Lib.hid hP2
          clear q1 q2 q3 hP2
          go_wp2
          refine ⟨⟨j + 1, r3, ?_, rfl, by omega, by omega, Q1.out, fun h0 => ?_, HB.out.trans (hb3.mono HB.out.size)⟩, ?_⟩
          · rw [HNX.out, ← HP2.out]
          · rcases Nat.lt_or_ge k (j + 1) with h | h
            · exact absurd h0 (Q3.out HS.out (HPK.out h))
            · exact h
          · have := HP2.out
            simp [intOf]
            omega
        · have hrb : (r == 0) = false := beq_false_of_ne hr
          have hr3 := hr1 hr
          clear hr1 hr2
          go_wp2
          go_ret
          exact ⟨by rw [← hr3]; rfl, hb⟩
  · have hr2 : (r != 0) = true := by simp [hr]
    have hr3 := p1 hr
    clear p1 p2 p3
    go_wp2
    go_ret
    exact ⟨rfl, hb1⟩
end Go.Proofs.YtmbcejldifobnaaDoor
