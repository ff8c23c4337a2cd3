import Derived.Test.YtmbcejldifobnaaDoorC07
namespace Go.Proofs.YtmbcejldifobnaaDoor.Tp
open Go.RowKit
structure Tm where
  nm : ByteArray
  sy : Bool
  wo : Int
  ps : List (Int × Int)
def fl2 (ps : List (Int × Int)) : List Value := ps.flatMap fun p => [.int .i64 p.1, .int .i64 p.2]
def tmV (T : Tm) : List Value := .string T.nm :: .bool T.sy :: .int .i64 T.wo :: fl2 T.ps
theorem fl2_len (ps : List (Int × Int)) : (fl2 ps).length = 2 * ps.length := by
  induction ps with
  | nil => rfl
  | cons p r ih => show ((fl2 r).length + 2 : Nat) = 2 * (r.length + 1); omega
theorem fl2_cons (p : Int × Int) (r : List (Int × Int)) : fl2 (p :: r) = .int .i64 p.1 :: .int .i64 p.2 :: fl2 r := rfl
theorem fl2_at {ps : List (Int × Int)} {i : Nat} {p : Int × Int} (h : ps[i]? = some p) : (fl2 ps)[2 * i]? = some (.int .i64 p.1) ∧ (fl2 ps)[2 * i + 1]? = some (.int .i64 p.2) := by
  induction ps generalizing i with
  | nil => cases h
  | cons q r ih =>
    rw [fl2_cons]
    match i, h with
    | 0, h => cases h; exact ⟨rfl, rfl⟩
    | i + 1, h =>
      have := ih (i := i) h
      exact this
theorem extract_two {L : List Value} {o : Nat} {a b : Value} (h1 : L[o]? = some a) (h2 : L[o + 1]? = some b) : L.toArray.extract o (o + 2) = #[a, b] := by
  apply Array.ext_getElem?
  intro j
  rw [Array.getElem?_extract]
  have hl : o + 1 < L.length := (List.getElem?_eq_some_iff.1 h2).1
  match j with
  | 0 => simp [h1]; omega
  | 1 => simp [h2]; omega
  | j + 2 => simp; omega
theorem belB (w : World) (o : Obj) : Below w.heap.size w (w.alloc o) := (Below.refl _ _).alloc (Nat.le_refl _) _
theorem idx2 {ps : List (Int × Int)} {i : Nat} {p : Int × Int} (hl : ps.length = 12) (h : ps[i]? = some p) (w : World) :
    (Instr.index 36 (.agg (fl2 ps).toArray) (.int .i64 (i : Int))).run Tryd.prog w = .ok (.agg #[.int .i64 p.1, .int .i64 p.2]) w := by
  have hi : i < 12 := by have := (List.getElem?_eq_some_iff.1 h).1; omega
  obtain ⟨h1, h2⟩ := fl2_at h
  have hx := extract_two h1 h2
  have hI : (0 : Int) ≤ (i : Int) ∧ (i : Int) < 12 := by omega
  simp [Instr.index, run_underlying Tryd.underlying36, asIntOf, go_sem, part]
  rw [if_pos hi, Nat.mul_comm i 2]
  have h3 : List.take 2 (List.drop (2 * i) (fl2 ps)) = [.int .i64 p.1, .int .i64 p.2] := by
    have := congrArg Array.toList hx
    simpa using this
  rw [h3]

/-- Block g holds these values. -/
def RowV (w : World) (g : Nat) (t : TypeId) (L : List Value) : Prop := w.heap[g]? = some (.cells L.toArray t (0, 0))
theorem RowV.cell {w : World} {g : Nat} {t : TypeId} {L : List Value} (h : RowV w g t L) {i : Nat} {x : Value} (hx : L[i]? = some x) : w.cell? ⟨g, i, none⟩ = some x := by
  rw [Go.Joins.cell_of_block h i]; simp [hx]
theorem RowV.range {w : World} {g : Nat} {t : TypeId} {L : List Value} (h : RowV w g t L) {o : Nat} {K : List Value} (hk : ∀ j v, K[j]? = some v → L[o + j]? = some v) : w.rangeAt g o K := fun j v hv => h.cell (hk j v hv)
theorem RowV.of_alloc (w : World) (t : TypeId) (L : List Value) : RowV (w.alloc (.cells L.toArray t)) w.heap.size t L := heap_alloc_new w _
theorem RowV.lt {w : World} {g : Nat} {t : TypeId} {L : List Value} (h : RowV w g t L) : g < w.heap.size := (Array.getElem?_eq_some_iff.1 h).1
theorem RowV.up {w w' : World} {g : Nat} {t : TypeId} {L : List Value} (h : RowV w g t L) (hb : Below w.heap.size w w') : RowV w' g t L := (hb.block g h.lt).trans h
theorem RowV.alloc {w : World} {g : Nat} {t : TypeId} {L : List Value} (h : RowV w g t L) (o : Obj) : RowV (w.alloc o) g t L := h.up (belB w o)
theorem tmV_len (T : Tm) : (tmV T).length = 3 + 2 * T.ps.length := by show (fl2 T.ps).length + 3 = _; rw [fl2_len]; omega
theorem sz2 {ps : List (Int × Int)} (hl : ps.length = 12) : (Tryd.prog.info? 36).map (·.size) = some (fl2 ps).length := by rw [fl2_len, hl]; kernel_rfl
theorem szT {T : Tm} (hl : T.ps.length = 12) : (Tryd.prog.info? 38).map (·.size) = some (tmV T).length := by rw [tmV_len, hl]; kernel_rfl
def pOk (p : Int × Int) : Bool := decide (1 ≤ p.2) && decide (p.2 ≤ 24) && decide (-2 * p.2 ≤ p.1) && decide (p.1 ≤ 2 * p.2)
theorem pOk_iff {p : Int × Int} : pOk p = true ↔ (1 ≤ p.2 ∧ p.2 ≤ 24) ∧ -2 * p.2 ≤ p.1 ∧ p.1 ≤ 2 * p.2 := by
  unfold pOk; simp only [Bool.and_eq_true, decide_eq_true_eq]; constructor
  · rintro ⟨⟨⟨a, b⟩, c⟩, d⟩; exact ⟨⟨a, b⟩, c, d⟩
  · rintro ⟨⟨a, b⟩, c, d⟩; exact ⟨⟨⟨a, b⟩, c⟩, d⟩
def fitsT (T : Tm) : Bool := T.ps.all pOk && (decide (0 ≤ T.wo) && decide (T.wo < 12))
def FtRel (w : World) (L : List Value) (P : List (Int × Int)) (iv : Value) (wr : World) : Prop :=
  ∃ i : Nat, i ≤ 12 ∧ iv = .int .i64 (i : Int) ∧ (∀ p ∈ P.take i, pOk p = true) ∧ RowV wr w.heap.size 38 L ∧ Below w.heap.size w wr
theorem all_take {α : Type} {f : α → Bool} {l : List α} {i : Nat} {x : α} (h : ∀ p ∈ l.take i, f p = true) (hx : l[i]? = some x) (hf : f x = true) : ∀ p ∈ l.take (i + 1), f p = true := by
  intro p hp
  rw [List.take_add_one, hx, List.mem_append] at hp
  rcases hp with hp | hp
  · exact h p hp
  · simp at hp; subst hp; exact hf
theorem all_no {α : Type} {f : α → Bool} {l : List α} {i : Nat} {x : α} (hx : l[i]? = some x) (hf : f x = false) : l.all f = false := by
  rw [Bool.eq_false_iff]
  intro h
  have := List.all_eq_true.1 h x (List.mem_of_getElem? hx)
  rw [hf] at this
  cases this
set_option maxRecDepth 100000 in
set_option maxHeartbeats 1000000 in
theorem fits_any (T : Tm) (w : World) (hl : T.ps.length = 12) : Calls Tryd.prog 109 #[.agg (tmV T).toArray] w fun e w' => e = .returned (.bool (fitsT T)) ∧ Below w.heap.size w w' := by
  have hr := RowV.of_alloc w 38 (tmV T)
  have hc : (w.alloc (.cells (tmV T).toArray 38)).rangeAt w.heap.size 3 (fl2 T.ps) := hr.range fun j v hv => by rw [Nat.add_comm]; exact hv
  have hwo : ∀ W, RowV W w.heap.size 38 (tmV T) → W.cell? ⟨w.heap.size, 2, none⟩ = some (.int .i64 T.wo) := fun W h => h.cell (i := 2) rfl
  have hf : fitsT T = (T.ps.all pOk && (decide (0 ≤ T.wo) && decide (T.wo < 12))) := rfl
  have HF := Lib.hid hf
  have HWO := Lib.hid hwo
  have HR := Lib.hid hr
  have HC := Lib.hid hc
  have HI := Lib.hid (sz2 hl)
  have HX := Lib.hid (fun i p (h : T.ps[i]? = some p) W => idx2 hl h W)
  clear hr hc hwo hf
  generalize fitsT T = FT at *
  generalize tmV T = L at *
  generalize T.ps = P at *
  generalize T.wo = wo at *
  have HL := Lib.hid hl
  clear hl
  go_enter Tryd.func109, Tryd.ntmps109
  go_wp2_with (refine wpList_load_mid rfl 36 _ rfl w.heap.size 3 rfl (fl2 P) _ HC.out Tryd.underlying36 rfl HI.out ?_)
  go_loopw [7] (fun iv wr => FtRel w L P iv wr) (fun iv _ => 12 - (intOf iv).toNat)
  case atStart => exact ⟨0, Nat.zero_le _, rfl, (by simp), HR.out, belB w _⟩
  case round =>
    clear HR HC
    obtain ⟨i, hi, rfl, hok, hrow, hb⟩ := hrel
    have HOK := Lib.hid hok
    have HROW := Lib.hid hrow
    have HB := Lib.hid hb
    clear hok hrow hb
    by_cases hil : i < 12
    · obtain ⟨⟨n, d⟩, hn⟩ : ∃ p, P[i]? = some p := ⟨P[i]'(by have := HL.out; omega), List.getElem?_eq_getElem _⟩
      have hix := fun W => HX.out i (n, d) hn W
      have hilI : (i : Int) < 12 := by omega
      have HN := Lib.hid hn
      clear hn
      simp only at hix
      have hca : d < 1 ∨ (¬ d < 1 ∧ 24 < d) ∨ ((1 ≤ d ∧ d ≤ 24) ∧ n < -2 * d) ∨ ((1 ≤ d ∧ d ≤ 24) ∧ ¬ n < -2 * d ∧ 2 * d < n) ∨ ((1 ≤ d ∧ d ≤ 24) ∧ ¬ n < -2 * d ∧ ¬ 2 * d < n) := by omega
      rcases hca with h1 | ⟨h1, h2⟩ | ⟨⟨h1, h2⟩, h3⟩ | ⟨⟨h1, h2⟩, h3, h4⟩ | ⟨⟨h1, h2⟩, h3, h4⟩
      case' inr.inr.inr.inr =>
        have hp : pOk (n, d) = true := pOk_iff.2 ⟨⟨h1, h2⟩, by simp only; omega, by simp only; omega⟩
        have HP := Lib.hid hp
        clear hp
        go_wp2
        refine ⟨⟨i + 1, by omega, by go_num, all_take HOK.out HN.out HP.out, HROW.out.alloc _, ?_⟩, by simp [intOf]; omega⟩
        exact HB.out.alloc HB.out.size _
      all_goals
        have hp : pOk (n, d) = false := by rw [Bool.eq_false_iff]; intro h; have := pOk_iff.1 h; simp only at this; omega
        have HP := Lib.hid hp
        clear hp
        go_wp2
        go_ret
        refine ⟨?_, HB.out.alloc HB.out.size _⟩
        rw [HF.out, all_no HN.out HP.out]
        rfl
    · obtain rfl : i = 12 := by omega
      have hwo := HWO.out _ HROW.out
      have ha : P.all pOk = true := List.all_eq_true.2 fun y hy => HOK.out y (by rw [List.take_of_length_le (by have := HL.out; omega)]; exact hy)
      have HA := Lib.hid ha
      clear ha
      by_cases h1 : wo < 0
      · go_wp2
        go_ret
        refine ⟨?_, HB.out⟩
        rw [HF.out, HA.out, decide_eq_false (by omega)]
        rfl
      · have h1' : 0 ≤ wo := by omega
        by_cases h2 : wo < 12
        · go_wp2
          go_ret
          refine ⟨?_, HB.out⟩
          rw [HF.out, HA.out, decide_eq_true h1', decide_eq_true h2]
          rfl
        · go_wp2
          go_ret
          refine ⟨?_, HB.out⟩
          rw [HF.out, HA.out, decide_eq_true h1', decide_eq_false (by omega)]
          rfl
end Go.Proofs.YtmbcejldifobnaaDoor.Tp

namespace Go.Proofs.YtmbcejldifobnaaDoor.Tp
open Go.RowKit
def nameB' (s : ByteArray) : Bool := Wn.nameB s.data.toList
theorem name_any' (s : ByteArray) (w : World) (hs : s.size ≤ maxLen) : Calls Tryd.prog 159 #[.string s] w fun e w' => e = .returned (.bool (nameB' s)) ∧ w = w' := Wn.name_any s w hs
def GtRel (w : World) (L : List Value) (P : List (Int × Int)) (iv : Value) (wr : World) : Prop :=
  ∃ i : Nat, i ≤ 12 ∧ iv = .int .i64 (i : Int) ∧ (∀ p ∈ P.take i, (Nat.gcd p.1.natAbs p.2.natAbs == 1) = true) ∧ RowV wr w.heap.size 38 L ∧ Below w.heap.size w wr
def gOk (p : Int × Int) : Bool := Nat.gcd p.1.natAbs p.2.natAbs == 1
def woP (T : Tm) : Int × Int := T.ps.getD T.wo.toNat (0, 0)
def zB (p : Int × Int) : Bool := p.1 == 0 && p.2 == 1
def formedT (T : Tm) : Bool := T.ps.all gOk && (nameB' T.nm && zB (woP T))
set_option maxRecDepth 100000 in
set_option maxHeartbeats 1000000 in
theorem formed_any (T : Tm) (w : World) (hl : T.ps.length = 12) (hs : T.nm.size ≤ maxLen) (hf : fitsT T = true) : Calls Tryd.prog 110 #[.agg (tmV T).toArray] w fun e w' => e = .returned (.bool (formedT T)) ∧ Below w.heap.size w w' := by
  have hr := RowV.of_alloc w 38 (tmV T)
  have hc : (w.alloc (.cells (tmV T).toArray 38)).rangeAt w.heap.size 3 (fl2 T.ps) := hr.range fun j v hv => by rw [Nat.add_comm]; exact hv
  obtain ⟨hps, hw1, hw2⟩ : T.ps.all pOk = true ∧ 0 ≤ T.wo ∧ T.wo < 12 := by
    unfold fitsT at hf
    simpa only [Bool.and_eq_true, decide_eq_true_eq] using hf
  obtain ⟨wn, hwn⟩ : ∃ wn : Nat, T.wo = (wn : Int) := ⟨T.wo.toNat, by omega⟩
  obtain ⟨⟨wx, wy⟩, hwp⟩ : ∃ p, T.ps[wn]? = some p := ⟨T.ps[wn]'(by omega), List.getElem?_eq_getElem _⟩
  have hwP : woP T = (wx, wy) := by unfold woP; rw [hwn, Int.toNat_natCast, List.getD_eq_getElem?_getD, hwp]; rfl
  have hfd : formedT T = (T.ps.all gOk && (nameB' T.nm && zB (woP T))) := rfl
  rw [hwP] at hfd
  have hwo : ∀ W, RowV W w.heap.size 38 (tmV T) → W.cell? ⟨w.heap.size, 0, none⟩ = some (.string T.nm) ∧ W.cell? ⟨w.heap.size, 2, none⟩ = some (.int .i64 (wn : Int)) ∧ W.cell? ⟨w.heap.size, 3 + wn * 2, none⟩ = some (.int .i64 wx) ∧ W.cell? ⟨w.heap.size, 3 + wn * 2 + 1, none⟩ = some (.int .i64 wy) := fun W h => by
    obtain ⟨f1, f2⟩ := fl2_at hwp
    refine ⟨h.cell (i := 0) rfl, h.cell (i := 2) (by rw [← hwn]; rfl), h.cell ?_, h.cell ?_⟩
    · rw [Nat.add_comm, Nat.mul_comm]; exact f1
    · rw [show 3 + wn * 2 + 1 = 2 * wn + 1 + 3 by omega]; exact f2
  have HF := Lib.hid hfd
  have HWO := Lib.hid hwo
  have HR := Lib.hid hr
  have HC := Lib.hid hc
  have HI := Lib.hid (sz2 hl)
  have HX := Lib.hid (fun i p (h : T.ps[i]? = some p) W => idx2 hl h W)
  have HPS := Lib.hid hps
  have HNM := Lib.hid (fun W => name_any' T.nm W hs)
  have HL := Lib.hid hl
  have hw3 : wn < 12 := by omega
  clear hr hc hwo hfd hwP hps hl hwn hw1 hw2 hwp hf
  generalize formedT T = FT at *
  generalize nameB' T.nm = NB at *
  generalize tmV T = L at *
  generalize T.ps = P at *
  generalize T.nm = nm at *
  go_enter Tryd.func110, Tryd.ntmps110
  go_wp2_with (refine wpList_load_mid rfl 36 _ rfl w.heap.size 3 rfl (fl2 P) _ HC.out Tryd.underlying36 rfl HI.out ?_)
  go_loopw [7] (fun iv wr => GtRel w L P iv wr) (fun iv _ => 12 - (intOf iv).toNat)
  case atStart => exact ⟨0, Nat.zero_le _, rfl, (by simp), HR.out, belB w _⟩
  case round =>
    clear HR HC
    obtain ⟨i, hi, rfl, hok, hrow, hb⟩ := hrel
    have HOK := Lib.hid hok
    have HROW := Lib.hid hrow
    have HB := Lib.hid hb
    clear hok hrow hb
    by_cases hil : i < 12
    · obtain ⟨⟨n, d⟩, hn⟩ : ∃ p, P[i]? = some p := ⟨P[i]'(by have := HL.out; omega), List.getElem?_eq_getElem _⟩
      have hix := fun W => HX.out i (n, d) hn W
      have hilI : (i : Int) < 12 := by omega
      have hp := pOk_iff.1 (List.all_eq_true.1 HPS.out (n, d) (List.mem_of_getElem? hn))
      have HN := Lib.hid hn
      clear hn
      simp only at hix hp
      obtain ⟨⟨h1, h2⟩, h3, h4⟩ := hp
      obtain ⟨g, hg⟩ : ∃ g, g = Nat.gcd n.natAbs d.natAbs := ⟨_, rfl⟩
      have hcd := fun W => cdiv_any n d 100 W (by omega) (by omega) (by omega) (by omega) (by omega)
      rw [← hg] at hcd
      have HCD := Lib.hid hcd
      have HG := Lib.hid hg
      clear hcd hg
      go_wp2_with fail
      refine (HCD.out _).mono ?_
      rintro e w2 ⟨he, ⟨nd, rfl⟩⟩
      subst he
      by_cases hg1 : g = 1
      · have hp : gOk (n, d) = true := by unfold gOk; simp only; rw [← HG.out, hg1]; rfl
        have HP := Lib.hid hp
        clear hp
        subst hg1
        go_wp2
        refine ⟨⟨i + 1, by omega, by go_num, all_take HOK.out HN.out HP.out, ?_, ?_⟩, by simp [intOf]; omega⟩
        · exact (HROW.out.alloc _).up (below_drewN _ _)
        · exact (HB.out.alloc HB.out.size _).trans ((below_drewN _ _).mono (by simp; have := HB.out.size; omega))
      · have hp : gOk (n, d) = false := by unfold gOk; simp only; rw [← HG.out]; simp [hg1]
        have HP := Lib.hid hp
        have q1 : ((g : Int) != 1) = true := by simp; omega
        clear hp hg1
        go_wp2
        go_ret
        refine ⟨?_, ?_⟩
        · rw [HF.out, all_no HN.out HP.out]
          rfl
        · exact (HB.out.alloc HB.out.size _).trans ((below_drewN _ _).mono (by simp; have := HB.out.size; omega))
    · obtain rfl : i = 12 := by omega
      obtain ⟨c0, c2, c3, c4⟩ := HWO.out _ HROW.out
      have ha : P.all gOk = true := List.all_eq_true.2 fun y hy => HOK.out y (by rw [List.take_of_length_le (by have := HL.out; omega)]; exact hy)
      have HA := Lib.hid ha
      clear ha
      go_wp2_with fail
      refine (HNM.out _).mono ?_
      rintro e w2 ⟨he, hw⟩
      subst he
      subst hw
      cases NB
      case' false =>
        go_wp2
        go_ret
        refine ⟨?_, HB.out⟩
        rw [HF.out, HA.out]
        rfl
      case' true =>
        by_cases hx : wx = 0
        · subst hx
          by_cases hy : wy = 1
          · subst hy
            go_wp2
            go_ret
            refine ⟨?_, HB.out⟩
            rw [HF.out, HA.out]
            rfl
          · have q1 : (wy == 1) = false := beq_false_of_ne hy
            have HQ := Lib.hid q1
            clear hy
            go_wp2
            go_ret
            refine ⟨?_, HB.out⟩
            rw [HF.out, HA.out]
            unfold zB
            simp only [HQ.out]
            rfl
        · have q1 : (wx == 0) = false := beq_false_of_ne hx
          have HQ := Lib.hid q1
          clear hx
          go_wp2
          go_ret
          refine ⟨?_, HB.out⟩
          rw [HF.out, HA.out]
          unfold zB
          simp only [HQ.out]
          rfl
def lcL (ps : List (Int × Int)) : Nat := ps.foldl (fun m p => Nat.lcm m p.2.natAbs) 1
def agreeT (T : Tm) : Bool := decide (lcL T.ps ≤ 120)
theorem lc_mono : ∀ (ps : List (Int × Int)) (m : Nat), m ∣ ps.foldl (fun m p => Nat.lcm m p.2.natAbs) m
  | [], m => Nat.dvd_refl m
  | p :: r, m => Nat.dvd_trans (Nat.dvd_lcm_left m p.2.natAbs) (lc_mono r (Nat.lcm m p.2.natAbs))
theorem lc_pos : ∀ (ps : List (Int × Int)) (m : Nat), 0 < m → (∀ p ∈ ps, 1 ≤ p.2) → 0 < ps.foldl (fun m p => Nat.lcm m p.2.natAbs) m
  | [], _, hm, _ => hm
  | p :: r, m, hm, h => lc_pos r _ (Nat.lcm_pos hm (by have := h p (by simp); omega)) fun x hx => h x (by simp [hx])
theorem lc_take (ps : List (Int × Int)) (i : Nat) : lcL (ps.take i) ∣ lcL ps := by
  have h := lc_mono (ps.drop i) (lcL (ps.take i))
  have e : (ps.drop i).foldl (fun m p => Nat.lcm m p.2.natAbs) (lcL (ps.take i)) = lcL ps := by
    unfold lcL; rw [← List.foldl_append, List.take_append_drop]
  rw [e] at h
  exact h
theorem lc_step {ps : List (Int × Int)} {i : Nat} {p : Int × Int} (h : ps[i]? = some p) : lcL (ps.take (i + 1)) = Nat.lcm (lcL (ps.take i)) p.2.natAbs := by
  unfold lcL; rw [List.take_add_one, h, List.foldl_append]; rfl
end Go.Proofs.YtmbcejldifobnaaDoor.Tp

namespace Go.Proofs.YtmbcejldifobnaaDoor.Tp
open Go.RowKit
def AgRel (w : World) (P : List (Int × Int)) (mv iv : Value) (wr : World) : Prop :=
  ∃ i m : Nat, i ≤ 12 ∧ iv = .int .i64 (i : Int) ∧ mv = .int .i64 (m : Int) ∧ lcL (P.take i) = m ∧ 1 ≤ m ∧ m ≤ 120 ∧ Below w.heap.size w wr
theorem lcm_quo {m d g : Nat} (hg : g = Nat.gcd m d) : m * (d / g) = Nat.lcm m d := by
  subst hg
  rw [Nat.lcm, Nat.mul_div_assoc _ (Nat.gcd_dvd_right m d)]
set_option maxRecDepth 100000 in
set_option maxHeartbeats 1000000 in
theorem agree_any (P : List (Int × Int)) (w : World) (hl : P.length = 12) (hp : P.all pOk = true) : Calls Tryd.prog 111 #[.agg (fl2 P).toArray] w fun e w' => e = .returned (.bool (decide (lcL P ≤ 120))) ∧ Below w.heap.size w w' := by
  have hr := RowV.of_alloc w 36 (fl2 P)
  have hc : (w.alloc (.cells (fl2 P).toArray 36)).rangeAt w.heap.size 0 (fl2 P) := hr.range fun j v hv => by rw [Nat.zero_add]; exact hv
  have HC := Lib.hid hc
  have HI := Lib.hid (sz2 hl)
  have HX := Lib.hid (fun i p (h : P[i]? = some p) W => idx2 hl h W)
  have HPS := Lib.hid hp
  have HL := Lib.hid hl
  clear hr hc hp hl
  go_enter Tryd.func111, Tryd.ntmps111
  go_wp2_with (refine wpList_load_mid rfl 36 _ rfl w.heap.size 0 rfl (fl2 P) _ HC.out Tryd.underlying36 rfl HI.out ?_)
  go_loopw [3, 7] (fun mv iv wr => AgRel w P mv iv wr) (fun _ iv _ => 12 - (intOf iv).toNat)
  case atStart => exact ⟨0, 1, Nat.zero_le _, rfl, rfl, rfl, Nat.le_refl 1, by omega, belB w _⟩
  case round =>
    clear HC
    obtain ⟨i, m, hi, rfl, rfl, hlc, hm1, hm2, hb⟩ := hrel
    have HLC := Lib.hid hlc
    have HB := Lib.hid hb
    clear hlc hb
    by_cases hil : i < 12
    · obtain ⟨⟨n, d0⟩, hn⟩ : ∃ p, P[i]? = some p := ⟨P[i]'(by have := HL.out; omega), List.getElem?_eq_getElem _⟩
      have hp := pOk_iff.1 (List.all_eq_true.1 HPS.out (n, d0) (List.mem_of_getElem? hn))
      simp only at hp
      obtain ⟨d, rfl⟩ : ∃ d : Nat, d0 = (d : Int) := ⟨d0.toNat, by omega⟩
      have hix := fun W => HX.out i (n, (d : Int)) hn W
      have hilI : (i : Int) < 12 := by omega
      have hst := lc_step hn
      have HN := Lib.hid hn
      clear hn
      simp only at hix hst
      rw [HLC.out, Int.natAbs_natCast] at hst
      obtain ⟨⟨h1, h2⟩, h3, h4⟩ := hp
      obtain ⟨g, hg⟩ : ∃ g, g = Nat.gcd m d := ⟨_, rfl⟩
      have hgp : 0 < g := by rw [hg]; exact Nat.gcd_pos_of_pos_left _ (by omega)
      have hlq := lcm_quo hg
      obtain ⟨k, hk⟩ : ∃ k, k = d / g := ⟨_, rfl⟩
      rw [← hk, ← hst] at hlq
      obtain ⟨m2, hm⟩ : ∃ m2, m2 = lcL (P.take (i + 1)) := ⟨_, rfl⟩
      rw [← hm] at hlq
      have hkd : k ≤ d := by rw [hk]; exact Nat.div_le_self _ _
      have hmk : m * k ≤ 120 * 24 := Nat.mul_le_mul hm2 (by omega)
      have hm21 : 1 ≤ m2 := by
        rw [hm, hst]; exact Nat.lcm_pos hm1 (by omega)
      have hcd := fun W => cdiv_any (m : Int) (d : Int) 120 W (by omega) (by omega) (by omega) (by omega) (by omega)
      rw [Int.natAbs_natCast, Int.natAbs_natCast, ← hg] at hcd
      have hq : (d : Int).tdiv (g : Int) = (k : Int) := by rw [hk]; rfl
      have hq2 : (d : Int) / (g : Int) = (k : Int) := by rw [hk]; exact (Int.natCast_ediv d g).symm
      have hmI : (m : Int) * (k : Int) = (m2 : Int) := by rw [← hlq]; exact (Int.natCast_mul m k).symm
      have hm2b : (m2 : Int) ≤ 2880 := by rw [← hmI]; have := hmk; omega
      have hg0 : ¬ (g : Int) = 0 := by omega
      have HCD := Lib.hid hcd
      have HM := Lib.hid hm
      clear hcd hm hst hk hg hlq hmk
      go_wp2
      go_quiet ((go_at_call 158; exact Calls.quiet_of (HCD.out _)))
      by_cases hle : m2 ≤ 120
      · go_wp2
        refine ⟨⟨i + 1, m2, by omega, by go_num, rfl, HM.out.symm, by omega, hle, ?_⟩, by simp [intOf]; omega⟩
        exact (HB.out.alloc HB.out.size _).trans ((below_drewN _ _).mono (by simp; have := HB.out.size; omega))
      · go_wp2
        go_ret
        refine ⟨?_, (HB.out.alloc HB.out.size _).trans ((below_drewN _ _).mono (by simp; have := HB.out.size; omega))⟩
        have hno : ¬ lcL P ≤ 120 := by
          intro h
          have h1 := Nat.le_of_dvd (Nat.lt_of_lt_of_le Nat.zero_lt_one (lc_pos P 1 (by omega) fun p hp => (pOk_iff.1 (List.all_eq_true.1 HPS.out p hp)).1.1)) (lc_take P (i + 1))
          have h2 : P.foldl (fun m p => Nat.lcm m p.2.natAbs) 1 = lcL P := rfl
          have := HM.out
          omega
        rw [decide_eq_false hno]
        rfl
    · obtain rfl : i = 12 := by omega
      have hm : lcL P = m := by rw [← HLC.out, List.take_of_length_le (by have := HL.out; omega)]
      have HM := Lib.hid hm
      clear hm
      go_wp2
      go_ret
      refine ⟨?_, HB.out⟩
      rw [HM.out, decide_eq_true hm2]
      rfl
def chkT (T : Tm) : Int := if fitsT T = true then (if formedT T = true then (if agreeT T = true then 0 else 7) else 6) else 2
theorem RowV.all {w : World} {g : Nat} {t : TypeId} {L : List Value} (h : RowV w g t L) : w.rangeAt g 0 L := h.range fun j v hv => by rw [Nat.zero_add]; exact hv
theorem RowV.parts {w : World} {g : Nat} {t : TypeId} {T : Tm} (h : RowV w g t (tmV T)) : w.rangeAt g 3 (fl2 T.ps) := h.range fun j v hv => by rw [Nat.add_comm]; exact hv
set_option maxRecDepth 100000 in
set_option maxHeartbeats 1000000 in
theorem Check_any (T : Tm) (w : World) (hl : T.ps.length = 12) (hs : T.nm.size ≤ maxLen) : Calls Tryd.prog 58 #[.agg (tmV T).toArray] w fun e w' => e = .returned (.int .i64 (chkT T)) ∧ Below w.heap.size w w' := by
  have HR := Lib.hid (RowV.of_alloc w 38 (tmV T))
  have HI := Lib.hid (sz2 hl)
  have HI2 := Lib.hid (szT hl)
  have HP := Lib.hid (fun W (h : RowV W w.heap.size 38 (tmV T)) => h.parts)
  have HFT := Lib.hid (fun W => fits_any T W hl)
  have HFO := Lib.hid (fun W (h : fitsT T = true) => formed_any T W hl hs h)
  have HAG := Lib.hid (fun W (h : fitsT T = true) => agree_any T.ps W hl (by unfold fitsT at h; simp only [Bool.and_eq_true] at h; exact h.1))
  have hck : chkT T = if fitsT T = true then (if formedT T = true then (if decide (lcL T.ps ≤ 120) = true then 0 else 7) else 6) else 2 := rfl
  have HCK := Lib.hid hck
  clear hck hl hs
  generalize chkT T = CK at *
  generalize fitsT T = FT at *
  generalize formedT T = FO at *
  generalize decide (lcL T.ps ≤ 120) = AG at *
  generalize tmV T = L at *
  generalize T.ps = P at *
  go_enter Tryd.func58, Tryd.ntmps58
  go_wp2_with (refine wpList_load_mid rfl 38 _ rfl w.heap.size 0 rfl L _ HR.out.all Tryd.underlying38 rfl HI2.out ?_)
  refine (HFT.out _).mono ?_
  rintro e w2 ⟨he, hb⟩
  subst he
  have hr := HR.out.up hb
  have hb2 := (belB w (.cells L.toArray 38)).trans (hb.mono (by simp))
  have HR := Lib.hid hr
  have HB := Lib.hid hb2
  clear hr hb2 hb
  cases FT
  case' false =>
    go_wp2
    go_ret
    exact ⟨by rw [HCK.out]; rfl, HB.out⟩
  case' true =>
    have HFO2 := Lib.hid (fun W => HFO.out W rfl)
    have HAG2 := Lib.hid (fun W => HAG.out W rfl)
    clear HFO HAG
    go_wp2_with (refine wpList_load_mid rfl 38 _ rfl w.heap.size 0 rfl L _ HR.out.all Tryd.underlying38 rfl HI2.out ?_)
    refine (HFO2.out _).mono ?_
    rintro e w3 ⟨he, hb⟩
    subst he
    have hr := HR.out.up hb
    have hb2 := HB.out.trans (hb.mono HB.out.size)
    have HR := Lib.hid hr
    have HB := Lib.hid hb2
    clear hr hb2 hb
    cases FO
    case' false =>
      go_wp2
      go_ret
      exact ⟨by rw [HCK.out]; rfl, HB.out⟩
    case' true =>
      go_wp2_with (refine wpList_load_mid rfl 36 _ rfl w.heap.size 3 rfl (fl2 P) _ (HP.out _ HR.out) Tryd.underlying36 rfl HI.out ?_)
      refine (HAG2.out _).mono ?_
      rintro e w4 ⟨he, hb⟩
      subst he
      have hb2 := HB.out.trans (hb.mono HB.out.size)
      have HB := Lib.hid hb2
      clear hb2 hb
      cases AG
      all_goals
        go_wp2
        go_ret
        exact ⟨by rw [HCK.out]; rfl, HB.out⟩
end Go.Proofs.YtmbcejldifobnaaDoor.Tp

namespace Go.Proofs.YtmbcejldifobnaaDoor.Tp
open Go.RowKit
def RfRel (w : World) (L : List Value) (P : List (Int × Int)) (iv : Value) (wr : World) : Prop :=
  ∃ i : Nat, i ≤ 12 ∧ iv = .int .i64 (i : Int) ∧ (∀ p ∈ P.take i, pOk p = true) ∧ RowV wr w.heap.size 38 L ∧ Below w.heap.size w wr
def RaRel (w : World) (L : List Value) (P : List (Int × Int)) (mv iv : Value) (wr : World) : Prop :=
  ∃ i m : Nat, i ≤ 12 ∧ iv = .int .i64 (i : Int) ∧ mv = .int .i64 (m : Int) ∧ (∀ p ∈ P.take i, gOk p = true) ∧ ((lcL (P.take i) = m ∧ 1 ≤ m ∧ m ≤ 120) ∨ (120 < m ∧ m ≤ 2880 ∧ 120 < lcL P)) ∧ RowV wr w.heap.size 38 L ∧ Below w.heap.size w wr
theorem part_cells {W : World} {g : Nat} {T : Tm} (h : RowV W g 38 (tmV T)) {i : Nat} {x y : Int} (hi : T.ps[i]? = some (x, y)) : W.cell? ⟨g, 3 + i * 2, none⟩ = some (.int .i64 x) ∧ W.cell? ⟨g, 3 + i * 2 + 1, none⟩ = some (.int .i64 y) := by
  obtain ⟨f1, f2⟩ := fl2_at hi
  refine ⟨h.cell ?_, h.cell ?_⟩
  · rw [Nat.add_comm, Nat.mul_comm]; exact f1
  · rw [show 3 + i * 2 + 1 = 2 * i + 1 + 3 by omega]; exact f2
theorem fitsT_false1 {T : Tm} (h : T.wo < 0 ∨ 11 < T.wo) : fitsT T = false := by
  unfold fitsT
  rw [Bool.eq_false_iff]
  intro h2
  simp only [Bool.and_eq_true, decide_eq_true_eq] at h2
  omega
theorem fitsT_false2 {T : Tm} {i : Nat} {p : Int × Int} (h : T.ps[i]? = some p) (hp : pOk p = false) : fitsT T = false := by
  unfold fitsT
  rw [all_no h hp]
  rfl
theorem fitsT_true {T : Tm} (h : T.ps.all pOk = true) (h1 : 0 ≤ T.wo) (h2 : T.wo ≤ 11) : fitsT T = true := by
  unfold fitsT
  rw [h, decide_eq_true h1, decide_eq_true (by omega)]
  rfl
set_option maxRecDepth 100000 in
set_option maxHeartbeats 2000000 in
theorem rCheck_bad (T : Tm) (w : World) (hw : T.wo < 0 ∨ 11 < T.wo) : Calls Tryd.prog 16 #[.agg (tmV T).toArray] w fun e w' => e = .returned (.int .i64 2) ∧ Below w.heap.size w w' := by
  have HR := Lib.hid (RowV.of_alloc w 38 (tmV T))
  have hwo : ∀ W, RowV W w.heap.size 38 (tmV T) → W.cell? ⟨w.heap.size, 2, none⟩ = some (.int .i64 T.wo) := fun W h => h.cell (i := 2) rfl
  have m2 := hwo _ HR.out
  generalize tmV T = L at *
  generalize T.wo = wo at *
  clear hwo
  rcases hw with hw | hw
  · go_enter Tryd.func16, Tryd.ntmps16
    go_wp2
    go_ret
    exact ⟨rfl, belB w _⟩
  · have h0 : ¬ wo < 0 := by omega
    go_enter Tryd.func16, Tryd.ntmps16
    go_wp2
    go_ret
    exact ⟨rfl, belB w _⟩
set_option maxRecDepth 100000 in
set_option maxHeartbeats 2000000 in
theorem rCheck_wolf (T : Tm) (w : World) (hl : T.ps.length = 12) (hs : T.nm.size ≤ maxLen) (hw1 : 0 ≤ T.wo) (hw2 : T.wo ≤ 11) : Calls Tryd.prog 16 #[.agg (tmV T).toArray] w fun e w' => e = .returned (.int .i64 (chkT T)) ∧ Below w.heap.size w w' := by
  have hck : chkT T = if fitsT T = true then (if formedT T = true then (if agreeT T = true then 0 else 7) else 6) else 2 := rfl
  have HR := Lib.hid (RowV.of_alloc w 38 (tmV T))
  obtain ⟨wn, hwn⟩ : ∃ wn : Nat, T.wo = (wn : Int) := ⟨T.wo.toNat, by omega⟩
  obtain ⟨⟨wx, wy⟩, hwp⟩ : ∃ p, T.ps[wn]? = some p := ⟨T.ps[wn]'(by omega), List.getElem?_eq_getElem _⟩
  have hwP : woP T = (wx, wy) := by unfold woP; rw [hwn, Int.toNat_natCast, List.getD_eq_getElem?_getD, hwp]; rfl
  have hfd : formedT T = (T.ps.all gOk && (nameB' T.nm && zB (wx, wy))) := by rw [← hwP]; rfl
  have hag : agreeT T = decide (lcL T.ps ≤ 120) := rfl
  have HF1 := Lib.hid (fun i p (h : T.ps[i]? = some p) (hp : pOk p = false) => fitsT_false2 h hp)
  have HF2 := Lib.hid (fun (h : T.ps.all pOk = true) => fitsT_true h hw1 hw2)
  have HPC := Lib.hid (fun W (h : RowV W w.heap.size 38 (tmV T)) i x y (hi : T.ps[i]? = some (x, y)) => part_cells h hi)
  have HWC := Lib.hid (fun W (h : RowV W w.heap.size 38 (tmV T)) => part_cells h hwp)
  have hwo : ∀ W, RowV W w.heap.size 38 (tmV T) → W.cell? ⟨w.heap.size, 0, none⟩ = some (.string T.nm) ∧ W.cell? ⟨w.heap.size, 2, none⟩ = some (.int .i64 (wn : Int)) := fun W h => ⟨h.cell (i := 0) rfl, h.cell (i := 2) (by rw [← hwn]; rfl)⟩
  have hwz : formedT T = true → zB (wx, wy) = true ∧ nameB' T.nm = true ∧ T.ps.all gOk = true := by
    rw [hfd]; intro h; simp only [Bool.and_eq_true] at h; exact ⟨h.2.2, h.2.1, h.1⟩
  have HNM := Lib.hid (fun W => Wn.rname_any T.nm W hs)
  have hnb : Wn.nameB T.nm.data.toList = nameB' T.nm := rfl
  rw [hnb] at HNM
  have HL := Lib.hid hl
  have HCK := Lib.hid hck
  have HFD := Lib.hid hfd
  have HAG := Lib.hid hag
  have HWO := Lib.hid hwo
  have hwn12 : wn ≤ 11 := by omega
  clear hl hck hfd hag hwo hwn hwp hwP hw1 hw2 hwz
  generalize chkT T = CK at *
  generalize fitsT T = FT at *
  generalize formedT T = FO at *
  generalize agreeT T = AG at *
  generalize nameB' T.nm = NB at *
  generalize tmV T = L at *
  generalize T.ps = P at *
  generalize T.nm = nm at *
  have c2 := (HWO.out _ HR.out).2
  go_enter Tryd.func16, Tryd.ntmps16
  go_wp2
  go_loopw [3] (fun iv wr => RfRel w L P iv wr) (fun iv _ => 12 - (intOf iv).toNat)
  case atStart => exact ⟨0, Nat.zero_le _, rfl, (by simp), HR.out, belB w _⟩
  case round =>
    clear HR c2
    obtain ⟨i, hi, rfl, hok, hrow, hb⟩ := hrel
    have HOK := Lib.hid hok
    have HROW := Lib.hid hrow
    have HB := Lib.hid hb
    clear hok hrow hb
    by_cases hil : i < 12
    · obtain ⟨⟨n, d⟩, hn⟩ : ∃ p, P[i]? = some p := ⟨P[i]'(by have := HL.out; omega), List.getElem?_eq_getElem _⟩
      obtain ⟨c3, c4⟩ := HPC.out _ HROW.out i n d hn
      have hilI : (i : Int) < 12 := by omega
      have HN := Lib.hid hn
      clear hn
      have hca : d < 1 ∨ (¬ d < 1 ∧ 24 < d) ∨ ((1 ≤ d ∧ d ≤ 24) ∧ n < -2 * d) ∨ ((1 ≤ d ∧ d ≤ 24) ∧ ¬ n < -2 * d ∧ 2 * d < n) ∨ ((1 ≤ d ∧ d ≤ 24) ∧ ¬ n < -2 * d ∧ ¬ 2 * d < n) := by omega
      rcases hca with h1 | ⟨h1, h2⟩ | ⟨⟨h1, h2⟩, h3⟩ | ⟨⟨h1, h2⟩, h3, h4⟩ | ⟨⟨h1, h2⟩, h3, h4⟩
      case' inr.inr.inr.inr =>
        have hp : pOk (n, d) = true := pOk_iff.2 ⟨⟨h1, h2⟩, by simp only; omega, by simp only; omega⟩
        have HP := Lib.hid hp
        clear hp
        go_wp2
        refine ⟨⟨i + 1, by omega, by go_num, all_take HOK.out HN.out HP.out, HROW.out.alloc _, ?_⟩, by simp [intOf]; omega⟩
        exact HB.out.alloc HB.out.size _
      all_goals
        have hp : pOk (n, d) = false := by rw [Bool.eq_false_iff]; intro h; have := pOk_iff.1 h; simp only at this; omega
        have HP := Lib.hid hp
        clear hp
        go_wp2
        go_ret
        refine ⟨?_, HB.out.alloc HB.out.size _⟩
        rw [HCK.out, HF1.out _ _ HN.out HP.out]
        rfl
    · obtain rfl : i = 12 := by omega
      obtain ⟨c0, c2⟩ := HWO.out _ HROW.out
      obtain ⟨c3, c4⟩ := HWC.out _ HROW.out
      have ha : P.all pOk = true := List.all_eq_true.2 fun y hy => HOK.out y (by rw [List.take_of_length_le (by have := HL.out; omega)]; exact hy)
      have hft := HF2.out ha
      have HPS := Lib.hid ha
      subst hft
      have HCK2 : Hid (CK = if FO = true then (if AG = true then 0 else 7) else 6) := Lib.hid (by rw [HCK.out]; rfl)
      clear ha HCK HF1 HF2
      cases NB
      case' false =>
        have hfo : FO = false := by rw [HFD.out]; simp
        have HFO := Lib.hid hfo
        clear hfo
        go_wp2_with fail
        refine (HNM.out _).mono ?_
        rintro e w2 ⟨he, hw⟩
        subst he
        subst hw
        go_wp2
        go_ret
        refine ⟨?_, HB.out⟩
        rw [HCK2.out, HFO.out]
        rfl
      case' true =>
        go_wp2_with fail
        refine (HNM.out _).mono ?_
        rintro e w2 ⟨he, hw⟩
        subst he
        subst hw
        by_cases hx : wx = 0
        case' neg =>
          have hfo : FO = false := by rw [HFD.out]; unfold zB; simp [hx]
          have q1 : (wx == 0) = false := beq_false_of_ne hx
          have HFO := Lib.hid hfo
          clear hfo hx
          go_wp2
          go_ret
          refine ⟨?_, HB.out⟩
          rw [HCK2.out, HFO.out]
          rfl
        case' pos =>
          subst hx
          by_cases hy : wy = 1
          case' neg =>
            have hfo : FO = false := by rw [HFD.out]; unfold zB; simp [hy]
            have q1 : (wy == 1) = false := beq_false_of_ne hy
            have HFO := Lib.hid hfo
            clear hfo hy
            go_wp2
            go_ret
            refine ⟨?_, HB.out⟩
            rw [HCK2.out, HFO.out]
            rfl
          case' pos =>
            subst hy
            have hfo : FO = P.all gOk := by rw [HFD.out]; unfold zB; simp
            have HFO := Lib.hid hfo
            clear hfo HFD HNM HWC HOK
            go_wp2
            go_loopw [5, 6] (fun mv iv wr => RaRel w L P mv iv wr) (fun _ iv _ => 12 - (intOf iv).toNat)
            case atStart => exact ⟨0, 1, Nat.zero_le _, rfl, rfl, (by simp), .inl ⟨rfl, by omega, by omega⟩, HROW.out, HB.out⟩
            case round =>
              clear HROW HB c0 c2 c3 c4
              obtain ⟨i, m, hi, rfl, rfl, hok, hlc, hrow, hb⟩ := hrel
              have HOK := Lib.hid hok
              have HLC := Lib.hid hlc
              have HROW := Lib.hid hrow
              have HB := Lib.hid hb
              have hmb : 1 ≤ m ∧ m ≤ 2880 := by omega
              clear hok hlc hrow hb
              by_cases hil : i < 12
              · obtain ⟨⟨n, d0⟩, hn⟩ : ∃ p, P[i]? = some p := ⟨P[i]'(by have := HL.out; omega), List.getElem?_eq_getElem _⟩
                have hp := pOk_iff.1 (List.all_eq_true.1 HPS.out (n, d0) (List.mem_of_getElem? hn))
                simp only at hp
                obtain ⟨d, rfl⟩ : ∃ d : Nat, d0 = (d : Int) := ⟨d0.toNat, by omega⟩
                obtain ⟨c3, c4⟩ := HPC.out _ HROW.out i n d hn
                have hilI : (i : Int) < 12 := by omega
                have hst := lc_step hn
                have HN := Lib.hid hn
                clear hn
                simp only at hst
                rw [Int.natAbs_natCast] at hst
                obtain ⟨⟨h1, h2⟩, h3, h4⟩ := hp
                obtain ⟨a, ha⟩ : ∃ a, a = n.natAbs := ⟨_, rfl⟩
                have hmx : max n (-n) = (a : Int) := by omega
                obtain ⟨g, hg⟩ : ∃ g, g = Nat.gcd a d := ⟨_, rfl⟩
                have hcd := fun W => r5gcd_any a d W (by omega) (by omega)
                rw [← hg] at hcd
                have HCD := Lib.hid hcd
                have HG := Lib.hid hg
                have HA := Lib.hid ha
                have HST := Lib.hid hst
                have hp1 : g = 1 → gOk (n, (d : Int)) = true := fun h => by unfold gOk; simp only; rw [Int.natAbs_natCast, ← ha, ← hg, h]; rfl
                have hp2 : ¬ g = 1 → gOk (n, (d : Int)) = false := fun h => by unfold gOk; simp only; rw [Int.natAbs_natCast, ← ha, ← hg]; simp [h]
                have HP1 := Lib.hid hp1
                have HP2 := Lib.hid hp2
                have hca : (n = (a : Int) ∧ -(a : Int) ≤ (a : Int)) ∨ (n = -(a : Int) ∧ ¬ (a : Int) ≤ -(a : Int)) := by omega
                clear hcd hg ha hst hmx hp1 hp2 HG HA
                rcases hca with ⟨rfl, h5⟩ | ⟨rfl, h5⟩
                all_goals
                  have hm1 : max (a : Int) (-(a : Int)) = (a : Int) := by omega
                  have hm2 : max (-(a : Int)) (a : Int) = (a : Int) := by omega
                  have hm3 : max (-(a : Int)) (- -(a : Int)) = (a : Int) := by omega
                  go_wp2_with fail
                  clear hm1 hm2 hm3
                  refine (HCD.out _).mono ?_
                  rintro e w2 ⟨he, hdr⟩
                  subst he
                  have hb2 := hdr.below
                  have hpr := (RowV.of_alloc wr 35 [.int .i64 _, .int .i64 (d : Int)]).up hb2
                  have hrow2 := (HROW.out.alloc _).up hb2
                  have hbb := (HB.out.alloc HB.out.size _).trans (hb2.mono (by simp; have := HB.out.size; omega))
                  have c5 := hpr.cell (i := 1) rfl
                  have HROW2 := Lib.hid hrow2
                  have HB2 := Lib.hid hbb
                  clear hdr hb2 hpr hrow2 hbb
                  by_cases hg1 : g = 1
                  · have hp := HP1.out hg1
                    have HP := Lib.hid hp
                    clear hp
                    subst hg1
                    by_cases hle : m ≤ 120
                    · have hlc : lcL (P.take i) = m := by rcases HLC.out with h | h <;> omega
                      have hst := HST.out
                      rw [hlc] at hst
                      obtain ⟨g2, hg2⟩ : ∃ g2, g2 = Nat.gcd m d := ⟨_, rfl⟩
                      have hgp : 0 < g2 := by rw [hg2]; exact Nat.gcd_pos_of_pos_left _ (by omega)
                      have hcd2 := fun W => r5gcd_any m d W (by omega) (by omega)
                      rw [← hg2] at hcd2
                      have hlq : m / g2 * d = Nat.lcm m d := by
                        subst hg2
                        rw [Nat.lcm, Nat.div_mul_right_comm (Nat.gcd_dvd_left m d)]
                      obtain ⟨k, hk⟩ : ∃ k, k = m / g2 := ⟨_, rfl⟩
                      rw [← hk, ← hst] at hlq
                      obtain ⟨m2, hm⟩ : ∃ m2, m2 = lcL (P.take (i + 1)) := ⟨_, rfl⟩
                      rw [← hm] at hlq
                      have hkd : k ≤ m := by rw [hk]; exact Nat.div_le_self _ _
                      have hmk : k * d ≤ 120 * 24 := Nat.mul_le_mul (by omega) (by omega)
                      have hm21 : 1 ≤ m2 := by
                        rw [hm, hst]; exact Nat.lcm_pos (by omega) (by omega)
                      have hq : (m : Int).tdiv (g2 : Int) = (k : Int) := by rw [hk]; rfl
                      have hq2 : (m : Int) / (g2 : Int) = (k : Int) := by rw [hk]; exact (Int.natCast_ediv m g2).symm
                      have hmI : (k : Int) * (d : Int) = (m2 : Int) := by rw [← hlq]; exact (Int.natCast_mul k d).symm
                      have hm2b : (m2 : Int) ≤ 2880 := by rw [← hmI]; have := hmk; omega
                      have hg0 : ¬ (g2 : Int) = 0 := by omega
                      have HCD2 := Lib.hid hcd2
                      have HM := Lib.hid hm
                      clear hcd2 hm hst hk hg2 hlq hmk hlc HLC HST HCD
                      go_wp2
                      go_quiet ((go_at_call 54; exact Calls.quiet_of (HCD2.out _)))
                      go_wp2
                      refine ⟨⟨i + 1, m2, by omega, by go_num, rfl, all_take HOK.out HN.out HP.out, ?_, ?_, ?_⟩, by simp [intOf]; omega⟩
                      · by_cases hm3 : m2 ≤ 120
                        · exact .inl ⟨HM.out.symm, hm21, hm3⟩
                        · refine .inr ⟨by omega, by omega, ?_⟩
                          have h1 := Nat.le_of_dvd (Nat.lt_of_lt_of_le Nat.zero_lt_one (lc_pos P 1 (by omega) fun p hp => (pOk_iff.1 (List.all_eq_true.1 HPS.out p hp)).1.1)) (lc_take P (i + 1))
                          have h2 : P.foldl (fun m p => Nat.lcm m p.2.natAbs) 1 = lcL P := rfl
                          have := HM.out
                          omega
                      · exact HROW2.out.up (below_drewN _ _)
                      · exact HB2.out.trans ((below_drewN _ _).mono HB2.out.size)
                    · have hlc : 120 < lcL P := by rcases HLC.out with h | h <;> omega
                      have HLC2 := Lib.hid hlc
                      clear hlc HLC HST HCD
                      go_wp2
                      refine ⟨⟨i + 1, m, by omega, by go_num, rfl, all_take HOK.out HN.out HP.out, .inr ⟨by omega, by omega, HLC2.out⟩, ?_, ?_⟩, by simp [intOf]; omega⟩
                      · exact HROW2.out
                      · exact HB2.out
                  · have hp := HP2.out hg1
                    have HP := Lib.hid hp
                    have q1 : ((g : Int) != 1) = true := by simp; omega
                    clear hp hg1
                    go_wp2
                    go_ret
                    refine ⟨?_, ?_⟩
                    · rw [HCK2.out, HFO.out, all_no HN.out HP.out]
                      rfl
                    · exact HB2.out
              · obtain rfl : i = 12 := by omega
                have ha : P.all gOk = true := List.all_eq_true.2 fun y hy => HOK.out y (by rw [List.take_of_length_le (by have := HL.out; omega)]; exact hy)
                have hfo := HFO.out
                rw [ha] at hfo
                have hlc := HLC.out
                rw [List.take_of_length_le (by have := HL.out; omega)] at hlc
                have hck := HCK2.out
                rw [hfo, HAG.out] at hck
                by_cases hle : m ≤ 120
                · rw [decide_eq_true (by omega : lcL P ≤ 120)] at hck
                  have HK := Lib.hid hck
                  clear ha hfo hlc hck HLC HFO HCK2 HAG
                  go_wp2
                  go_ret
                  exact ⟨by rw [HK.out]; rfl, HB.out⟩
                · rw [decide_eq_false (by omega : ¬ lcL P ≤ 120)] at hck
                  have HK := Lib.hid hck
                  clear ha hfo hlc hck HLC HFO HCK2 HAG
                  go_wp2
                  go_ret
                  exact ⟨by rw [HK.out]; rfl, HB.out⟩
theorem rCheck_any (T : Tm) (w : World) (hl : T.ps.length = 12) (hs : T.nm.size ≤ maxLen) : Calls Tryd.prog 16 #[.agg (tmV T).toArray] w fun e w' => e = .returned (.int .i64 (chkT T)) ∧ Below w.heap.size w w' := by
  by_cases h : T.wo < 0 ∨ 11 < T.wo
  · have e : chkT T = 2 := by unfold chkT; rw [fitsT_false1 h]; rfl
    rw [e]
    exact rCheck_bad T w h
  · exact rCheck_wolf T w hl hs (by omega) (by omega)
end Go.Proofs.YtmbcejldifobnaaDoor.Tp

namespace Go.Proofs.YtmbcejldifobnaaDoor.Tp
open Go.RowKit
def cR (r : Rt) : Value := .agg (cellsR r).toArray
set_option maxRecDepth 100000 in
set_option maxHeartbeats 1000000 in
theorem ratio_any (num den : Int) (w : World) (hp : PrL w) :
    Calls Tryd.prog 112 #[.int .i64 num, .int .i64 den] w fun e w' => e = .returned (cR (ofW num den).1) ∧ Below w.heap.size w w' := by
  have HOF := Lib.hid (fun W (h : PrL W) => Of_any num den W h)
  have HP := Lib.hid hp
  clear hp
  generalize ofW num den = RW at *
  have hr0 : RowI (w.alloc (.cells #[.int .i64 0, .int .i64 0, .int .i64 0, .int .i64 0, .int .i64 0, .int .i64 0, .int .i64 0] 24)) (w.heap.size) 24 [0, 0, 0, 0, 0, 0, 0] := by
    have h := RowI.of_alloc w 24 [0, 0, 0, 0, 0, 0, 0]
    try simp only [World.size_alloc] at h
    exact h
  have hb0 : Below w.heap.size w (w.alloc (.cells #[.int .i64 0, .int .i64 0, .int .i64 0, .int .i64 0, .int .i64 0, .int .i64 0, .int .i64 0] 24)) := (belA w _)
  have HR := Lib.hid hr0
  have HB := Lib.hid hb0
  clear hr0 hb0
  go_enter Tryd.func112, Tryd.ntmps112
  go_wp2_with fail
  refine (HOF.out _ (HP.out.below (HB.out.mono (Nat.le_refl _)))).mono ?_
  rintro e w1 ⟨he, hb1⟩
  obtain ⟨⟨⟨r0, r1, r2, r3, r4, r5⟩, rd⟩, re⟩ := RW
  unfold rtv at he
  simp only at he
  subst he
  have hr := ((HR.out.up hb1).alloc (.cells #[.int .i64 r0, .int .i64 r1, .int .i64 r2, .int .i64 r3, .int .i64 r4, .int .i64 r5, .int .i64 rd] 24))
  have hb : Below w.heap.size w (w1.alloc (.cells #[.int .i64 r0, .int .i64 r1, .int .i64 r2, .int .i64 r3, .int .i64 r4, .int .i64 r5, .int .i64 rd] 24)) := by
    have h1 := HB.out.trans (hb1.mono (by simp))
    exact h1.trans ((belA w1 _).mono h1.size)
  clear HR HB hb1
  obtain ⟨c0, c1, c2, c3, c4, c5, c6⟩ := hr.r7
  simp only [Nat.zero_add] at c0 c1 c2 c3 c4 c5 c6
  have f0 := hr.frozen 0
  have f1 := hr.frozen 1
  have f2 := hr.frozen 2
  have f3 := hr.frozen 3
  have f4 := hr.frozen 4
  have f5 := hr.frozen 5
  have f6 := hr.frozen 6
  have HR := Lib.hid hr
  have HB := Lib.hid hb
  clear hr hb
  go_wp2
  change bodyPost _ _ _ _ _ (putR _ w.heap.size r0 r1 r2 r3 r4 r5 rd)
  clear c0 c1 c2 c3 c4 c5 c6
  obtain ⟨c0, c1, c2, c3, c4, c5, c6⟩ := (putR_row HR.out r0 r1 r2 r3 r4 r5 rd).r7
  have hB := putR_below HB.out (show w.heap.size ≤ w.heap.size by omega) r0 r1 r2 r3 r4 r5 rd
  generalize putR _ w.heap.size r0 r1 r2 r3 r4 r5 rd = W' at *
  simp only [Nat.zero_add] at c0 c1 c2 c3 c4 c5 c6
  refine bodyPost_ret (v := .agg #[.int .i64 r0, .int .i64 r1, .int .i64 r2, .int .i64 r3, .int .i64 r4, .int .i64 r5, .int .i64 rd]) (by simp [results, Tryd.results112, c0, c1, c2, c3, c4, c5, c6, go_sem]) rfl ⟨rfl, hB⟩
set_option maxRecDepth 100000 in
set_option maxHeartbeats 1000000 in
theorem mul_any' (x0 x1 x2 x3 x4 x5 xd y0 y1 y2 y3 y4 y5 yd : Int) (w : World) :
    Calls Tryd.prog 117 #[.agg #[.int .i64 x0, .int .i64 x1, .int .i64 x2, .int .i64 x3, .int .i64 x4, .int .i64 x5, .int .i64 xd], .agg #[.int .i64 y0, .int .i64 y1, .int .i64 y2, .int .i64 y3, .int .i64 y4, .int .i64 y5, .int .i64 yd]] w fun e w' => e = .returned (cR (bothW ⟨⟨x0, x1, x2, x3, x4, x5⟩, xd⟩ ⟨⟨y0, y1, y2, y3, y4, y5⟩, yd⟩ 1).1) ∧ Below w.heap.size w w' := by
  have HOF := Lib.hid (fun W => Mul_any x0 x1 x2 x3 x4 x5 xd y0 y1 y2 y3 y4 y5 yd W)
  generalize bothW ⟨⟨x0, x1, x2, x3, x4, x5⟩, xd⟩ ⟨⟨y0, y1, y2, y3, y4, y5⟩, yd⟩ 1 = RW at *
  have hr0 : RowI (((w.alloc (.cells #[.int .i64 x0, .int .i64 x1, .int .i64 x2, .int .i64 x3, .int .i64 x4, .int .i64 x5, .int .i64 xd] 24)).alloc (.cells #[.int .i64 y0, .int .i64 y1, .int .i64 y2, .int .i64 y3, .int .i64 y4, .int .i64 y5, .int .i64 yd] 24)).alloc (.cells #[.int .i64 0, .int .i64 0, .int .i64 0, .int .i64 0, .int .i64 0, .int .i64 0, .int .i64 0] 24)) (w.heap.size + 1 + 1) 24 [0, 0, 0, 0, 0, 0, 0] := by
    have h := RowI.of_alloc ((w.alloc (.cells #[.int .i64 x0, .int .i64 x1, .int .i64 x2, .int .i64 x3, .int .i64 x4, .int .i64 x5, .int .i64 xd] 24)).alloc (.cells #[.int .i64 y0, .int .i64 y1, .int .i64 y2, .int .i64 y3, .int .i64 y4, .int .i64 y5, .int .i64 yd] 24)) 24 [0, 0, 0, 0, 0, 0, 0]
    try simp only [World.size_alloc] at h
    exact h
  have hb0 : Below w.heap.size w (((w.alloc (.cells #[.int .i64 x0, .int .i64 x1, .int .i64 x2, .int .i64 x3, .int .i64 x4, .int .i64 x5, .int .i64 xd] 24)).alloc (.cells #[.int .i64 y0, .int .i64 y1, .int .i64 y2, .int .i64 y3, .int .i64 y4, .int .i64 y5, .int .i64 yd] 24)).alloc (.cells #[.int .i64 0, .int .i64 0, .int .i64 0, .int .i64 0, .int .i64 0, .int .i64 0, .int .i64 0] 24)) := (((belA w _)).alloc (by simp) _).alloc (by simp; omega) _
  have HR := Lib.hid hr0
  have HB := Lib.hid hb0
  clear hr0 hb0
  go_enter Tryd.func117, Tryd.ntmps117
  go_wp2_with fail
  refine (HOF.out _).mono ?_
  rintro e w1 ⟨he, hb1⟩
  obtain ⟨⟨⟨r0, r1, r2, r3, r4, r5⟩, rd⟩, re⟩ := RW
  unfold rtv at he
  simp only at he
  subst he
  have hr := ((HR.out.up hb1).alloc (.cells #[.int .i64 r0, .int .i64 r1, .int .i64 r2, .int .i64 r3, .int .i64 r4, .int .i64 r5, .int .i64 rd] 24))
  have hb : Below w.heap.size w (w1.alloc (.cells #[.int .i64 r0, .int .i64 r1, .int .i64 r2, .int .i64 r3, .int .i64 r4, .int .i64 r5, .int .i64 rd] 24)) := by
    have h1 := HB.out.trans (hb1.mono (by simp; omega))
    exact h1.trans ((belA w1 _).mono h1.size)
  clear HR HB hb1
  obtain ⟨c0, c1, c2, c3, c4, c5, c6⟩ := hr.r7
  simp only [Nat.zero_add] at c0 c1 c2 c3 c4 c5 c6
  have f0 := hr.frozen 0
  have f1 := hr.frozen 1
  have f2 := hr.frozen 2
  have f3 := hr.frozen 3
  have f4 := hr.frozen 4
  have f5 := hr.frozen 5
  have f6 := hr.frozen 6
  have HR := Lib.hid hr
  have HB := Lib.hid hb
  clear hr hb
  go_wp2
  change bodyPost _ _ _ _ _ (putR _ (w.heap.size + 1 + 1) r0 r1 r2 r3 r4 r5 rd)
  clear c0 c1 c2 c3 c4 c5 c6
  obtain ⟨c0, c1, c2, c3, c4, c5, c6⟩ := (putR_row HR.out r0 r1 r2 r3 r4 r5 rd).r7
  have hB := putR_below HB.out (show w.heap.size ≤ (w.heap.size + 1 + 1) by omega) r0 r1 r2 r3 r4 r5 rd
  generalize putR _ (w.heap.size + 1 + 1) r0 r1 r2 r3 r4 r5 rd = W' at *
  simp only [Nat.zero_add] at c0 c1 c2 c3 c4 c5 c6
  refine bodyPost_ret (v := .agg #[.int .i64 r0, .int .i64 r1, .int .i64 r2, .int .i64 r3, .int .i64 r4, .int .i64 r5, .int .i64 rd]) (by simp [results, Tryd.results117, c0, c1, c2, c3, c4, c5, c6, go_sem]) rfl ⟨rfl, hB⟩
set_option maxRecDepth 100000 in
set_option maxHeartbeats 1000000 in
theorem div_any' (x0 x1 x2 x3 x4 x5 xd y0 y1 y2 y3 y4 y5 yd : Int) (w : World) :
    Calls Tryd.prog 113 #[.agg #[.int .i64 x0, .int .i64 x1, .int .i64 x2, .int .i64 x3, .int .i64 x4, .int .i64 x5, .int .i64 xd], .agg #[.int .i64 y0, .int .i64 y1, .int .i64 y2, .int .i64 y3, .int .i64 y4, .int .i64 y5, .int .i64 yd]] w fun e w' => e = .returned (cR (bothW ⟨⟨x0, x1, x2, x3, x4, x5⟩, xd⟩ ⟨⟨y0, y1, y2, y3, y4, y5⟩, yd⟩ (-1)).1) ∧ Below w.heap.size w w' := by
  have HOF := Lib.hid (fun W => Div_any x0 x1 x2 x3 x4 x5 xd y0 y1 y2 y3 y4 y5 yd W)
  generalize bothW ⟨⟨x0, x1, x2, x3, x4, x5⟩, xd⟩ ⟨⟨y0, y1, y2, y3, y4, y5⟩, yd⟩ (-1) = RW at *
  have hr0 : RowI (((w.alloc (.cells #[.int .i64 x0, .int .i64 x1, .int .i64 x2, .int .i64 x3, .int .i64 x4, .int .i64 x5, .int .i64 xd] 24)).alloc (.cells #[.int .i64 y0, .int .i64 y1, .int .i64 y2, .int .i64 y3, .int .i64 y4, .int .i64 y5, .int .i64 yd] 24)).alloc (.cells #[.int .i64 0, .int .i64 0, .int .i64 0, .int .i64 0, .int .i64 0, .int .i64 0, .int .i64 0] 24)) (w.heap.size + 1 + 1) 24 [0, 0, 0, 0, 0, 0, 0] := by
    have h := RowI.of_alloc ((w.alloc (.cells #[.int .i64 x0, .int .i64 x1, .int .i64 x2, .int .i64 x3, .int .i64 x4, .int .i64 x5, .int .i64 xd] 24)).alloc (.cells #[.int .i64 y0, .int .i64 y1, .int .i64 y2, .int .i64 y3, .int .i64 y4, .int .i64 y5, .int .i64 yd] 24)) 24 [0, 0, 0, 0, 0, 0, 0]
    try simp only [World.size_alloc] at h
    exact h
  have hb0 : Below w.heap.size w (((w.alloc (.cells #[.int .i64 x0, .int .i64 x1, .int .i64 x2, .int .i64 x3, .int .i64 x4, .int .i64 x5, .int .i64 xd] 24)).alloc (.cells #[.int .i64 y0, .int .i64 y1, .int .i64 y2, .int .i64 y3, .int .i64 y4, .int .i64 y5, .int .i64 yd] 24)).alloc (.cells #[.int .i64 0, .int .i64 0, .int .i64 0, .int .i64 0, .int .i64 0, .int .i64 0, .int .i64 0] 24)) := (((belA w _)).alloc (by simp) _).alloc (by simp; omega) _
  have HR := Lib.hid hr0
  have HB := Lib.hid hb0
  clear hr0 hb0
  go_enter Tryd.func113, Tryd.ntmps113
  go_wp2_with fail
  refine (HOF.out _).mono ?_
  rintro e w1 ⟨he, hb1⟩
  obtain ⟨⟨⟨r0, r1, r2, r3, r4, r5⟩, rd⟩, re⟩ := RW
  unfold rtv at he
  simp only at he
  subst he
  have hr := ((HR.out.up hb1).alloc (.cells #[.int .i64 r0, .int .i64 r1, .int .i64 r2, .int .i64 r3, .int .i64 r4, .int .i64 r5, .int .i64 rd] 24))
  have hb : Below w.heap.size w (w1.alloc (.cells #[.int .i64 r0, .int .i64 r1, .int .i64 r2, .int .i64 r3, .int .i64 r4, .int .i64 r5, .int .i64 rd] 24)) := by
    have h1 := HB.out.trans (hb1.mono (by simp; omega))
    exact h1.trans ((belA w1 _).mono h1.size)
  clear HR HB hb1
  obtain ⟨c0, c1, c2, c3, c4, c5, c6⟩ := hr.r7
  simp only [Nat.zero_add] at c0 c1 c2 c3 c4 c5 c6
  have f0 := hr.frozen 0
  have f1 := hr.frozen 1
  have f2 := hr.frozen 2
  have f3 := hr.frozen 3
  have f4 := hr.frozen 4
  have f5 := hr.frozen 5
  have f6 := hr.frozen 6
  have HR := Lib.hid hr
  have HB := Lib.hid hb
  clear hr hb
  go_wp2
  change bodyPost _ _ _ _ _ (putR _ (w.heap.size + 1 + 1) r0 r1 r2 r3 r4 r5 rd)
  clear c0 c1 c2 c3 c4 c5 c6
  obtain ⟨c0, c1, c2, c3, c4, c5, c6⟩ := (putR_row HR.out r0 r1 r2 r3 r4 r5 rd).r7
  have hB := putR_below HB.out (show w.heap.size ≤ (w.heap.size + 1 + 1) by omega) r0 r1 r2 r3 r4 r5 rd
  generalize putR _ (w.heap.size + 1 + 1) r0 r1 r2 r3 r4 r5 rd = W' at *
  simp only [Nat.zero_add] at c0 c1 c2 c3 c4 c5 c6
  refine bodyPost_ret (v := .agg #[.int .i64 r0, .int .i64 r1, .int .i64 r2, .int .i64 r3, .int .i64 r4, .int .i64 r5, .int .i64 rd]) (by simp [results, Tryd.results113, c0, c1, c2, c3, c4, c5, c6, go_sem]) rfl ⟨rfl, hB⟩
set_option maxRecDepth 100000 in
set_option maxHeartbeats 1000000 in
theorem pow_any' (x0 x1 x2 x3 x4 x5 xd n d : Int) (w : World) :
    Calls Tryd.prog 114 #[.agg #[.int .i64 x0, .int .i64 x1, .int .i64 x2, .int .i64 x3, .int .i64 x4, .int .i64 x5, .int .i64 xd], .agg #[.int .i64 n, .int .i64 d]] w fun e w' => e = .returned (cR (rpowW ⟨⟨x0, x1, x2, x3, x4, x5⟩, xd⟩ n d).1) ∧ Below w.heap.size w w' := by
  have HOF := Lib.hid (fun W => Pow_any x0 x1 x2 x3 x4 x5 xd n d W)
  generalize rpowW ⟨⟨x0, x1, x2, x3, x4, x5⟩, xd⟩ n d = RW at *
  have hr0 : RowI (((w.alloc (.cells #[.int .i64 x0, .int .i64 x1, .int .i64 x2, .int .i64 x3, .int .i64 x4, .int .i64 x5, .int .i64 xd] 24)).alloc (.cells #[.int .i64 n, .int .i64 d] 35)).alloc (.cells #[.int .i64 0, .int .i64 0, .int .i64 0, .int .i64 0, .int .i64 0, .int .i64 0, .int .i64 0] 24)) (w.heap.size + 1 + 1) 24 [0, 0, 0, 0, 0, 0, 0] := by
    have h := RowI.of_alloc ((w.alloc (.cells #[.int .i64 x0, .int .i64 x1, .int .i64 x2, .int .i64 x3, .int .i64 x4, .int .i64 x5, .int .i64 xd] 24)).alloc (.cells #[.int .i64 n, .int .i64 d] 35)) 24 [0, 0, 0, 0, 0, 0, 0]
    try simp only [World.size_alloc] at h
    exact h
  have hb0 : Below w.heap.size w (((w.alloc (.cells #[.int .i64 x0, .int .i64 x1, .int .i64 x2, .int .i64 x3, .int .i64 x4, .int .i64 x5, .int .i64 xd] 24)).alloc (.cells #[.int .i64 n, .int .i64 d] 35)).alloc (.cells #[.int .i64 0, .int .i64 0, .int .i64 0, .int .i64 0, .int .i64 0, .int .i64 0, .int .i64 0] 24)) := (((belA w _)).alloc (by simp) _).alloc (by simp; omega) _
  have HR := Lib.hid hr0
  have HB := Lib.hid hb0
  clear hr0 hb0
  go_enter Tryd.func114, Tryd.ntmps114
  go_wp2_with fail
  refine (HOF.out _).mono ?_
  rintro e w1 ⟨he, hb1⟩
  obtain ⟨⟨⟨r0, r1, r2, r3, r4, r5⟩, rd⟩, re⟩ := RW
  unfold rtv at he
  simp only at he
  subst he
  have hr := ((HR.out.up hb1).alloc (.cells #[.int .i64 r0, .int .i64 r1, .int .i64 r2, .int .i64 r3, .int .i64 r4, .int .i64 r5, .int .i64 rd] 24))
  have hb : Below w.heap.size w (w1.alloc (.cells #[.int .i64 r0, .int .i64 r1, .int .i64 r2, .int .i64 r3, .int .i64 r4, .int .i64 r5, .int .i64 rd] 24)) := by
    have h1 := HB.out.trans (hb1.mono (by simp; omega))
    exact h1.trans ((belA w1 _).mono h1.size)
  clear HR HB hb1
  obtain ⟨c0, c1, c2, c3, c4, c5, c6⟩ := hr.r7
  simp only [Nat.zero_add] at c0 c1 c2 c3 c4 c5 c6
  have f0 := hr.frozen 0
  have f1 := hr.frozen 1
  have f2 := hr.frozen 2
  have f3 := hr.frozen 3
  have f4 := hr.frozen 4
  have f5 := hr.frozen 5
  have f6 := hr.frozen 6
  have HR := Lib.hid hr
  have HB := Lib.hid hb
  clear hr hb
  go_wp2
  change bodyPost _ _ _ _ _ (putR _ (w.heap.size + 1 + 1) r0 r1 r2 r3 r4 r5 rd)
  clear c0 c1 c2 c3 c4 c5 c6
  obtain ⟨c0, c1, c2, c3, c4, c5, c6⟩ := (putR_row HR.out r0 r1 r2 r3 r4 r5 rd).r7
  have hB := putR_below HB.out (show w.heap.size ≤ (w.heap.size + 1 + 1) by omega) r0 r1 r2 r3 r4 r5 rd
  generalize putR _ (w.heap.size + 1 + 1) r0 r1 r2 r3 r4 r5 rd = W' at *
  simp only [Nat.zero_add] at c0 c1 c2 c3 c4 c5 c6
  refine bodyPost_ret (v := .agg #[.int .i64 r0, .int .i64 r1, .int .i64 r2, .int .i64 r3, .int .i64 r4, .int .i64 r5, .int .i64 rd]) (by simp [results, Tryd.results114, c0, c1, c2, c3, c4, c5, c6, go_sem]) rfl ⟨rfl, hB⟩
/-- What fold returns. -/
def FoldIs (x r : Rt) : Prop := x.Ok → ∃ k, FlIs x.v 1 x.d k ∧ ((foR x k).fits = true → r = foR x k)
def FoldP (w : World) (x : Rt) (e : Ending) (w' : World) : Prop := ∃ r, FoldIs x r ∧ e = .returned (cR r) ∧ Below w.heap.size w w'
theorem Fold_u (x0 x1 x2 x3 x4 x5 xd : Int) (w : World) (hp : PrL w) :
    Calls Tryd.prog 11 #[.agg #[.int .i64 x0, .int .i64 x1, .int .i64 x2, .int .i64 x3, .int .i64 x4, .int .i64 x5, .int .i64 xd]] w fun e w' => ∃ (r : Rt) (k er : Int), FoldIs ⟨⟨x0, x1, x2, x3, x4, x5⟩, xd⟩ r ∧ e = .returned (.tuple #[rtv r, .int .i64 k, .int .i64 er]) ∧ Below w.heap.size w w' := by
  refine (Fold_any x0 x1 x2 x3 x4 x5 xd w hp).mono ?_
  rintro e w' (⟨h0, k, hk, -, -, hb, h⟩ | ⟨h0, he, hb⟩)
  · rcases h with ⟨hf, he⟩ | ⟨hf, he⟩
    · exact ⟨foR _ k, k, 0, fun _ => ⟨k, hk, fun _ => rfl⟩, he, hb⟩
    · exact ⟨Rt.zero, 0, 7, fun _ => ⟨k, hk, fun h => by rw [hf] at h; cases h⟩, he, hb⟩
  · exact ⟨Rt.zero, 0, _, fun h => absurd (Rt.ok_iff.2 h) h0, he, hb⟩
set_option maxRecDepth 100000 in
set_option maxHeartbeats 1000000 in
theorem fold_any' (x0 x1 x2 x3 x4 x5 xd : Int) (w : World) (hp : PrL w) :
    Calls Tryd.prog 116 #[.agg #[.int .i64 x0, .int .i64 x1, .int .i64 x2, .int .i64 x3, .int .i64 x4, .int .i64 x5, .int .i64 xd]] w fun e w' => FoldP w ⟨⟨x0, x1, x2, x3, x4, x5⟩, xd⟩ e w' := by
  have HOF := Lib.hid (fun W (h : PrL W) => Fold_u x0 x1 x2 x3 x4 x5 xd W h)
  have HP := Lib.hid hp
  clear hp
  have hr0 : RowI ((w.alloc (.cells #[.int .i64 x0, .int .i64 x1, .int .i64 x2, .int .i64 x3, .int .i64 x4, .int .i64 x5, .int .i64 xd] 24)).alloc (.cells #[.int .i64 0, .int .i64 0, .int .i64 0, .int .i64 0, .int .i64 0, .int .i64 0, .int .i64 0] 24)) (w.heap.size + 1) 24 [0, 0, 0, 0, 0, 0, 0] := by
    have h := RowI.of_alloc (w.alloc (.cells #[.int .i64 x0, .int .i64 x1, .int .i64 x2, .int .i64 x3, .int .i64 x4, .int .i64 x5, .int .i64 xd] 24)) 24 [0, 0, 0, 0, 0, 0, 0]
    try simp only [World.size_alloc] at h
    exact h
  have hb0 : Below w.heap.size w ((w.alloc (.cells #[.int .i64 x0, .int .i64 x1, .int .i64 x2, .int .i64 x3, .int .i64 x4, .int .i64 x5, .int .i64 xd] 24)).alloc (.cells #[.int .i64 0, .int .i64 0, .int .i64 0, .int .i64 0, .int .i64 0, .int .i64 0, .int .i64 0] 24)) := ((belA w _)).alloc (by simp) _
  have HR := Lib.hid hr0
  have HB := Lib.hid hb0
  clear hr0 hb0
  go_enter Tryd.func116, Tryd.ntmps116
  go_wp2_with fail
  refine (HOF.out _ (HP.out.below (HB.out.mono (Nat.le_refl _)))).mono ?_
  rintro e w1 ⟨⟨⟨r0, r1, r2, r3, r4, r5⟩, rd⟩, k, er, hf, he, hb1⟩
  unfold rtv at he
  simp only at he
  subst he
  have HF := Lib.hid hf
  clear hf
  have hr := ((HR.out.up hb1).alloc (.cells #[.int .i64 r0, .int .i64 r1, .int .i64 r2, .int .i64 r3, .int .i64 r4, .int .i64 r5, .int .i64 rd] 24))
  have hb : Below w.heap.size w (w1.alloc (.cells #[.int .i64 r0, .int .i64 r1, .int .i64 r2, .int .i64 r3, .int .i64 r4, .int .i64 r5, .int .i64 rd] 24)) := by
    have h1 := HB.out.trans (hb1.mono (by simp; omega))
    exact h1.trans ((belA w1 _).mono h1.size)
  clear HR HB hb1
  obtain ⟨c0, c1, c2, c3, c4, c5, c6⟩ := hr.r7
  simp only [Nat.zero_add] at c0 c1 c2 c3 c4 c5 c6
  have f0 := hr.frozen 0
  have f1 := hr.frozen 1
  have f2 := hr.frozen 2
  have f3 := hr.frozen 3
  have f4 := hr.frozen 4
  have f5 := hr.frozen 5
  have f6 := hr.frozen 6
  have HR := Lib.hid hr
  have HB := Lib.hid hb
  clear hr hb
  go_wp2
  change bodyPost _ _ _ _ _ (putR _ (w.heap.size + 1) r0 r1 r2 r3 r4 r5 rd)
  clear c0 c1 c2 c3 c4 c5 c6
  obtain ⟨c0, c1, c2, c3, c4, c5, c6⟩ := (putR_row HR.out r0 r1 r2 r3 r4 r5 rd).r7
  have hB := putR_below HB.out (show w.heap.size ≤ (w.heap.size + 1) by omega) r0 r1 r2 r3 r4 r5 rd
  generalize putR _ (w.heap.size + 1) r0 r1 r2 r3 r4 r5 rd = W' at *
  simp only [Nat.zero_add] at c0 c1 c2 c3 c4 c5 c6
  refine bodyPost_ret (v := .agg #[.int .i64 r0, .int .i64 r1, .int .i64 r2, .int .i64 r3, .int .i64 r4, .int .i64 r5, .int .i64 rd]) (by simp [results, Tryd.results116, c0, c1, c2, c3, c4, c5, c6, go_sem]) rfl ⟨_, HF.out, rfl, hB⟩
def CentIs (x : Rt) (m : Int) : Prop := x.Ok → ∃ b er, FlW x.v 1200000 x.d m b er
end Go.Proofs.YtmbcejldifobnaaDoor.Tp

namespace Go.Proofs.YtmbcejldifobnaaDoor.Tp
open Go.RowKit
def fl7 (rs : List Rt) : List Value := rs.flatMap cellsR
theorem fl7_len (rs : List Rt) : (fl7 rs).length = 7 * rs.length := by
  induction rs with
  | nil => rfl
  | cons p r ih => show ((cellsR p ++ fl7 r).length : Nat) = 7 * (r.length + 1); rw [List.length_append, ih]; show 7 + _ = _; omega
theorem fl7_drop : ∀ (rs : List Rt) (i : Nat), (fl7 rs).drop (i * 7) = fl7 (rs.drop i)
  | rs, 0 => by simp
  | [], i + 1 => by simp [fl7]
  | p :: r, i + 1 => by
    show (cellsR p ++ fl7 r).drop ((i + 1) * 7) = fl7 (r.drop i)
    rw [show (i + 1) * 7 = (cellsR p).length + i * 7 by show _ = 7 + i * 7; omega, List.drop_append, ← fl7_drop r i]
    simp
theorem fl7_take : ∀ (rs : List Rt) (i : Nat), (fl7 rs).take (i * 7) = fl7 (rs.take i)
  | rs, 0 => by simp [fl7]
  | [], i + 1 => by simp [fl7]
  | p :: r, i + 1 => by
    show (cellsR p ++ fl7 r).take ((i + 1) * 7) = cellsR p ++ fl7 (r.take i)
    rw [show (i + 1) * 7 = (cellsR p).length + i * 7 by show _ = 7 + i * 7; omega, List.take_append, ← fl7_take r i, List.take_of_length_le (by omega), Nat.add_sub_cancel_left]
theorem fl7_at {rs : List Rt} {i : Nat} {r : Rt} (h : rs[i]? = some r) : ((fl7 rs).drop (i * 7)).take 7 = cellsR r := by
  rw [fl7_drop]
  have hi := (List.getElem?_eq_some_iff.1 h).1
  rw [List.drop_eq_getElem_cons hi]
  have hr : rs[i] = r := (List.getElem?_eq_some_iff.1 h).2
  rw [hr]
  show (cellsR r ++ fl7 (rs.drop (i + 1))).take 7 = _
  rw [List.take_append]
  show (cellsR r).take 7 ++ _ = _
  simp [cellsR]
theorem fl7_cell {rs : List Rt} {i : Nat} {r : Rt} (h : rs[i]? = some r) {j : Nat} {v : Value} (hv : (cellsR r)[j]? = some v) : (fl7 rs)[i * 7 + j]? = some v := by
  have hj : j < 7 := (List.getElem?_eq_some_iff.1 hv).1
  rw [← fl7_at h, List.getElem?_take, if_pos hj, List.getElem?_drop] at hv
  exact hv
theorem fl7_set {rs : List Rt} {i : Nat} (r : Rt) (h : i < rs.length) : (fl7 rs).take (i * 7) ++ cellsR r ++ (fl7 rs).drop (i * 7 + 7) = fl7 (rs.set i r) := by
  rw [show i * 7 + 7 = (i + 1) * 7 by omega, fl7_drop, fl7_take, List.set_eq_take_append_cons_drop, if_pos h]
  show fl7 (rs.take i) ++ cellsR r ++ fl7 (rs.drop (i + 1)) = fl7 (rs.take i ++ r :: rs.drop (i + 1))
  unfold fl7
  rw [List.flatMap_append, List.append_assoc]
  rfl
theorem RowV.setCell {w : World} {g : Nat} {t : TypeId} {L : List Value} (h : RowV w g t L) (i : Nat) (x : Value) : RowV (w.setCell ⟨g, i, none⟩ x) g t (L.set i x) := by
  have e : w.heap[g]? = some (.cells L.toArray t (0, 0)) := h
  show (w.setCell _ _).heap[g]? = _
  simp [World.setCell, Array.getElem?_modify, e]
theorem RowV.setCells {g : Nat} {t : TypeId} : ∀ (vs : List Value) (o : Nat) (w : World) (L : List Value), RowV w g t L → o + vs.length ≤ L.length → RowV (w.setCells g o vs) g t (L.take o ++ vs ++ L.drop (o + vs.length))
  | [], o, w, L, h, _ => by simpa [World.setCells] using h
  | v :: r, o, w, L, h, hl => by
    rw [World.setCells]
    have hl' : o + (r.length + 1) ≤ L.length := hl
    have ih := RowV.setCells r (o + 1) (w.setCell ⟨g, o, none⟩ v) (L.set o v) (h.setCell o v) (by rw [List.length_set]; omega)
    have e : (L.set o v).take (o + 1) ++ r ++ (L.set o v).drop (o + 1 + r.length) = L.take o ++ v :: r ++ L.drop (o + (v :: r).length) := by
      have e1 : (L.set o v).take (o + 1) = L.take o ++ [v] := by
        rw [List.take_add_one, List.take_set_of_le (Nat.le_refl o), List.getElem?_set_self (by omega)]
        rfl
      have e2 : (L.set o v).drop (o + 1 + r.length) = L.drop (o + 1 + r.length) := List.drop_set_of_lt (by omega)
      rw [e1, e2]
      simp [show o + 1 + r.length = o + (r.length + 1) by omega]
    rw [e] at ih
    exact ih
theorem below_setCells {g : Nat} {B : Nat} {w0 : World} : ∀ (vs : List Value) (o : Nat) (w : World), Below B w0 w → B ≤ g → Below B w0 (w.setCells g o vs)
  | [], _, _, h, _ => h
  | v :: r, o, w, h, hg => by rw [World.setCells]; exact below_setCells r (o + 1) _ (h.setCell hg v) hg
theorem RowV.otherCells {g k : Nat} {t : TypeId} {L : List Value} (hne : g ≠ k) : ∀ (vs : List Value) (o : Nat) (w : World), RowV w g t L → RowV (w.setCells k o vs) g t L
  | [], _, _, h => h
  | v :: r, o, w, h => by rw [World.setCells]; exact RowV.otherCells hne r (o + 1) _ ((setCell_heap hne).trans h)
theorem RowV.there {w : World} {g : Nat} {t : TypeId} {L : List Value} (h : RowV w g t L) {o n : Nat} (hl : o + n ≤ L.length) : w.there g o n := fun j hj => by
  have e : w.heap[g]? = some (.cells L.toArray t (0, 0)) := h
  refine ⟨?_, ?_⟩
  · rw [Go.Joins.cell_of_block e]; simp; omega
  · unfold World.frozen?; simp [e]
theorem RowV.at7 {w : World} {g : Nat} {t : TypeId} {rs : List Rt} (h : RowV w g t (fl7 rs)) {i : Nat} {r : Rt} (hr : rs[i]? = some r) : w.rangeAt g (i * 7) (cellsR r) := h.range fun _ _ hv => fl7_cell hr hv
theorem RowV.put7 {w : World} {g : Nat} {t : TypeId} {rs : List Rt} (h : RowV w g t (fl7 rs)) {i : Nat} (r : Rt) (hi : i < rs.length) : RowV (w.setCells g (i * 7) (cellsR r)) g t (fl7 (rs.set i r)) := by
  have h2 := h.setCells (cellsR r) (i * 7) w (fl7 rs) (by rw [fl7_len]; show i * 7 + 7 ≤ _; omega)
  have e := fl7_set (rs := rs) r hi
  have e2 : i * 7 + (cellsR r).length = i * 7 + 7 := rfl
  rw [e2, e] at h2
  exact h2
theorem szR (r : Rt) : (Tryd.prog.info? 24).map (·.size) = some (cellsR r).length := by show _ = some 7; kernel_rfl
theorem sz65 {rs : List Rt} (hl : rs.length = 12) : (Tryd.prog.info? 98).map (·.size) = some (fl7 rs).length := by rw [fl7_len, hl]; kernel_rfl
theorem idx7 {rs : List Rt} {i : Nat} {r : Rt} (hl : rs.length = 12) (h : rs[i]? = some r) (w : World) :
    (Instr.index 98 (.agg (fl7 rs).toArray) (.int .i64 (i : Int))).run Tryd.prog w = .ok (cR r) w := by
  have hi : i < 12 := by have := (List.getElem?_eq_some_iff.1 h).1; omega
  have hx := fl7_at h
  simp [Instr.index, run_underlying Tryd.underlying98, asIntOf, go_sem, part]
  rw [if_pos hi, hx]
  rfl
def cmW (T : Tm) : Rt := if T.sy = true then (ofW 81 80).1 else (ofW 531441 524288).1
end Go.Proofs.YtmbcejldifobnaaDoor.Tp

namespace Go.Proofs.YtmbcejldifobnaaDoor.Tp
open Go.RowKit
set_option maxRecDepth 100000 in
set_option maxHeartbeats 1000000 in
theorem comma_any (T : Tm) (w : World) (hp : PrL w) : Calls Tryd.prog 115 #[.agg (tmV T).toArray] w fun e w' => e = .returned (cR (cmW T)) ∧ Below w.heap.size w w' := by
  have HT := Lib.hid ((RowV.of_alloc w 38 (tmV T)).alloc (.cells #[.int .i64 0, .int .i64 0, .int .i64 0, .int .i64 0, .int .i64 0, .int .i64 0, .int .i64 0] 24))
  have hr0 : RowI ((w.alloc (.cells (tmV T).toArray 38)).alloc (.cells #[.int .i64 0, .int .i64 0, .int .i64 0, .int .i64 0, .int .i64 0, .int .i64 0, .int .i64 0] 24)) (w.heap.size + 1) 24 [0, 0, 0, 0, 0, 0, 0] := by
    have h := RowI.of_alloc (w.alloc (.cells (tmV T).toArray 38)) 24 [0, 0, 0, 0, 0, 0, 0]
    simp only [World.size_alloc] at h
    exact h
  have HR := Lib.hid hr0
  have HB := Lib.hid ((belA w (.cells (tmV T).toArray 38)).alloc (by simp) (.cells #[.int .i64 0, .int .i64 0, .int .i64 0, .int .i64 0, .int .i64 0, .int .i64 0, .int .i64 0] 24))
  have HP := Lib.hid hp
  have HSY := Lib.hid (fun W (h : RowV W w.heap.size 38 (tmV T)) => h.cell (i := 1) (x := .bool T.sy) rfl)
  clear hr0 hp
  generalize tmV T = L at *
  cases hsy : T.sy
  · have e1 : cmW T = (ofW 531441 524288).1 := by unfold cmW; rw [hsy]; rfl
    rw [e1]
    have c1 := HSY.out _ HT.out
    rw [hsy] at c1
    have HOF := Lib.hid (fun W (h : PrL W) => ratio_any 531441 524288 W h)
    clear e1 hsy HSY
    generalize (ofW 531441 524288).1 = RW at *
    go_enter Tryd.func115, Tryd.ntmps115
    go_wp2_with fail
    refine (HOF.out _ (HP.out.below HB.out)).mono ?_
    rintro e w1 ⟨he, hb1⟩
    obtain ⟨⟨r0, r1, r2, r3, r4, r5⟩, rd⟩ := RW
    subst he
    have hr := HR.out.up hb1
    have hb : Below w.heap.size w w1 := HB.out.trans (hb1.mono HB.out.size)
    clear HR HB HT hb1 c1
    obtain ⟨c0, c1, c2, c3, c4, c5, c6⟩ := hr.r7
    simp only [Nat.zero_add] at c0 c1 c2 c3 c4 c5 c6
    have f0 := hr.frozen 0
    have f1 := hr.frozen 1
    have f2 := hr.frozen 2
    have f3 := hr.frozen 3
    have f4 := hr.frozen 4
    have f5 := hr.frozen 5
    have f6 := hr.frozen 6
    have HR := Lib.hid hr
    have HB := Lib.hid hb
    clear hr hb
    unfold cR cellsR
    go_wp2
    change bodyPost _ _ _ _ _ (putR _ (w.heap.size + 1) r0 r1 r2 r3 r4 r5 rd)
    clear c0 c1 c2 c3 c4 c5 c6
    obtain ⟨c0, c1, c2, c3, c4, c5, c6⟩ := (putR_row HR.out r0 r1 r2 r3 r4 r5 rd).r7
    have hB := putR_below HB.out (show w.heap.size ≤ w.heap.size + 1 by omega) r0 r1 r2 r3 r4 r5 rd
    generalize putR _ (w.heap.size + 1) r0 r1 r2 r3 r4 r5 rd = W' at *
    simp only [Nat.zero_add] at c0 c1 c2 c3 c4 c5 c6
    refine bodyPost_ret (v := .agg #[.int .i64 r0, .int .i64 r1, .int .i64 r2, .int .i64 r3, .int .i64 r4, .int .i64 r5, .int .i64 rd]) (by simp [results, Tryd.results115, c0, c1, c2, c3, c4, c5, c6, go_sem]) rfl ⟨rfl, hB⟩
  · have e1 : cmW T = (ofW 81 80).1 := by unfold cmW; rw [hsy]; rfl
    rw [e1]
    have c1 := HSY.out _ HT.out
    rw [hsy] at c1
    have HOF := Lib.hid (fun W (h : PrL W) => ratio_any 81 80 W h)
    clear e1 hsy HSY
    generalize (ofW 81 80).1 = RW at *
    go_enter Tryd.func115, Tryd.ntmps115
    go_wp2_with fail
    refine (HOF.out _ (HP.out.below HB.out)).mono ?_
    rintro e w1 ⟨he, hb1⟩
    obtain ⟨⟨r0, r1, r2, r3, r4, r5⟩, rd⟩ := RW
    subst he
    have hr := HR.out.up hb1
    have hb : Below w.heap.size w w1 := HB.out.trans (hb1.mono HB.out.size)
    clear HR HB HT hb1 c1
    obtain ⟨c0, c1, c2, c3, c4, c5, c6⟩ := hr.r7
    simp only [Nat.zero_add] at c0 c1 c2 c3 c4 c5 c6
    have f0 := hr.frozen 0
    have f1 := hr.frozen 1
    have f2 := hr.frozen 2
    have f3 := hr.frozen 3
    have f4 := hr.frozen 4
    have f5 := hr.frozen 5
    have f6 := hr.frozen 6
    have HR := Lib.hid hr
    have HB := Lib.hid hb
    clear hr hb
    unfold cR cellsR
    go_wp2
    change bodyPost _ _ _ _ _ (putR _ (w.heap.size + 1) r0 r1 r2 r3 r4 r5 rd)
    clear c0 c1 c2 c3 c4 c5 c6
    obtain ⟨c0, c1, c2, c3, c4, c5, c6⟩ := (putR_row HR.out r0 r1 r2 r3 r4 r5 rd).r7
    have hB := putR_below HB.out (show w.heap.size ≤ w.heap.size + 1 by omega) r0 r1 r2 r3 r4 r5 rd
    generalize putR _ (w.heap.size + 1) r0 r1 r2 r3 r4 r5 rd = W' at *
    simp only [Nat.zero_add] at c0 c1 c2 c3 c4 c5 c6
    refine bodyPost_ret (v := .agg #[.int .i64 r0, .int .i64 r1, .int .i64 r2, .int .i64 r3, .int .i64 r4, .int .i64 r5, .int .i64 rd]) (by simp [results, Tryd.results115, c0, c1, c2, c3, c4, c5, c6, go_sem]) rfl ⟨rfl, hB⟩
theorem mulR (x y : Rt) (w : World) : Calls Tryd.prog 117 #[cR x, cR y] w fun e w' => e = .returned (cR (bothW x y 1).1) ∧ Below w.heap.size w w' := mul_any' x.v.a x.v.b x.v.c x.v.d x.v.e x.v.f x.d y.v.a y.v.b y.v.c y.v.d y.v.e y.v.f y.d w
theorem divR (x y : Rt) (w : World) : Calls Tryd.prog 113 #[cR x, cR y] w fun e w' => e = .returned (cR (bothW x y (-1)).1) ∧ Below w.heap.size w w' := div_any' x.v.a x.v.b x.v.c x.v.d x.v.e x.v.f x.d y.v.a y.v.b y.v.c y.v.d y.v.e y.v.f y.d w
theorem powR (x : Rt) (n d : Int) (w : World) : Calls Tryd.prog 114 #[cR x, .agg #[.int .i64 n, .int .i64 d]] w fun e w' => e = .returned (cR (rpowW x n d).1) ∧ Below w.heap.size w w' := pow_any' x.v.a x.v.b x.v.c x.v.d x.v.e x.v.f x.d n d w
theorem foldR (x : Rt) (w : World) (hp : PrL w) : Calls Tryd.prog 116 #[cR x] w fun e w' => FoldP w x e w' := fold_any' x.v.a x.v.b x.v.c x.v.d x.v.e x.v.f x.d w hp
end Go.Proofs.YtmbcejldifobnaaDoor.Tp
