import Derived.Test.YtmbcejldifobnaaDoorC06
import Derived.Deep.QuietTactic
import Derived.BigQuiet
import Derived.Test.YtmbcejldifobnaaDoorC01
import Derived.Test.YtmbcejldifobnaaDoorC05
import Derived.Deep.MidRow
import Derived.Deep.WholeRow
namespace Go.Proofs.YtmbcejldifobnaaDoor
open Go.RowKit
theorem sts_snoc (p : Nat) : ∀ (ps : List Nat) (n : Nat), sts (ps ++ [p]) n = ((st p (sts ps n).1).1, (sts ps n).2 ++ [(st p (sts ps n).1).2])
  | [], _ => rfl
  | q :: ps, n => by
    show ((sts (ps ++ [p]) (st q n).1).1, (st q n).2 :: (sts (ps ++ [p]) (st q n).1).2) = _
    rw [sts_snoc p ps]
    rfl
theorem ps6_prime : ∀ p ∈ ps6, primeN p := by
  intro p hp
  simp only [ps6, List.mem_cons, List.not_mem_nil, or_false] at hp
  rcases hp with rfl | rfl | rfl | rfl | rfl | rfl
  · exact prime2
  · exact prime3
  · exact prime5
  · exact prime7
  · exact prime11
  · exact prime13
theorem sts_le : ∀ (ps : List Nat), (∀ p ∈ ps, primeN p) → ∀ n : Nat, n ≠ 0 → (sts ps n).1 ≤ n
  | [], _, n, _ => Nat.le_refl n
  | p :: r, h, n, hn => by
    have hp := h p (by simp)
    have h1 := st_le hp.1 hn
    have h2 := sts_le r (fun q hq => h q (by simp [hq])) (st p n).1 (st_pos hp.1 hn)
    show (sts r (st p n).1).1 ≤ n
    omega
def ofZ (num den : Nat) : List Int := List.zipWith (fun x y : Nat => (x : Int) - (y : Int)) (sts ps6 num).2 (sts ps6 den).2
theorem ofZ_len (num den : Nat) : (ofZ num den).length = 6 := by
  unfold ofZ
  rw [List.length_zipWith, sts_len, sts_len]; rfl
theorem sts_at {n i p : Nat} (hp : ps6[i]? = some p) : (sts ps6 n).2[i]? = some (st p (sts (ps6.take i) n).1).2 := by
  have hi := (List.getElem?_eq_some_iff.1 hp).1
  have h : ∀ (ps : List Nat) (n i p : Nat), ps[i]? = some p → (sts ps n).2[i]? = some (st p (sts (ps.take i) n).1).2 := by
    intro ps
    induction ps with
    | nil => intro n i p h; simp at h
    | cons q ps ih =>
      intro n i p h
      cases i with
      | zero => simp at h; subst h; rfl
      | succ i => exact ih (st q n).1 i p (by simpa using h)
  exact h _ _ _ _ hp
theorem ofZ_at {num den i p : Nat} (hp : ps6[i]? = some p) : (ofZ num den)[i]? = some (((st p (sts (ps6.take i) num).1).2 : Int) - ((st p (sts (ps6.take i) den).1).2 : Int)) := by
  unfold ofZ
  rw [List.getElem?_zipWith, sts_at hp, sts_at hp]
def V6.ofL (l : List Int) : V6 := ⟨l.getD 0 0, l.getD 1 0, l.getD 2 0, l.getD 3 0, l.getD 4 0, l.getD 5 0⟩
/-- What Of returns. -/
def ofW (num den : Int) : Rt × Int := if 1 ≤ num ∧ num ≤ 1000000000000 ∧ 1 ≤ den ∧ den ≤ 1000000000000 then (if (sts ps6 num.toNat).1 = (sts ps6 den.toNat).1 then (⟨V6.ofL (ofZ num.toNat den.toNat), 1⟩, 0) else (Rt.zero, 7)) else (Rt.zero, 2)
theorem idx6p (i : Nat) (p : Int) (h : psI[i]? = some p) (w : World) :
    (Instr.index 89 (.agg #[.int .i64 2, .int .i64 3, .int .i64 5, .int .i64 7, .int .i64 11, .int .i64 13]) (.int .i64 (i : Int))).run Tryd.prog w = .ok (.int .i64 p) w := by
  match i, h with
  | 0, h => cases h; simp [Instr.index, run_underlying Tryd.underlying89, asIntOf, go_sem]
  | 1, h => cases h; simp [Instr.index, run_underlying Tryd.underlying89, asIntOf, go_sem]
  | 2, h => cases h; simp [Instr.index, run_underlying Tryd.underlying89, asIntOf, go_sem]
  | 3, h => cases h; simp [Instr.index, run_underlying Tryd.underlying89, asIntOf, go_sem]
  | 4, h => cases h; simp [Instr.index, run_underlying Tryd.underlying89, asIntOf, go_sem]
  | 5, h => cases h; simp [Instr.index, run_underlying Tryd.underlying89, asIntOf, go_sem]
def OfRel (w : World) (num den : Nat) (nv dv iv : Value) (wr : World) : Prop :=
  ∃ i : Nat, i ≤ 6 ∧ iv = .int .i64 (i : Int) ∧ nv = .int .i64 (((sts (ps6.take i) num).1 : Nat) : Int) ∧ dv = .int .i64 (((sts (ps6.take i) den).1 : Nat) : Int) ∧
    RowI wr w.heap.size 24 [0, 0, 0, 0, 0, 0, 0] ∧ RowI wr (w.heap.size + 1) 24 (mixL (ofZ num den) zero6 i ++ [1]) ∧ Below w.heap.size w wr
set_option maxRecDepth 100000 in
set_option maxHeartbeats 1000000 in
theorem Of_bad (num den : Int) (w : World) (h : ¬ (1 ≤ num ∧ num ≤ 1000000000000 ∧ 1 ≤ den ∧ den ≤ 1000000000000)) :
    Calls Tryd.prog 102 #[.int .i64 num, .int .i64 den] w (RtPost w (ofW num den)) := by
  have hW : ofW num den = (Rt.zero, 2) := by unfold ofW; rw [if_neg h]
  rw [hW]
  have hr := RowI.of_alloc w 24 [0, 0, 0, 0, 0, 0, 0]
  have hb := belA w (.cells #[.int .i64 0, .int .i64 0, .int .i64 0, .int .i64 0, .int .i64 0, .int .i64 0, .int .i64 0] 24)
  by_cases hn : wiB num 1 1000000000000 = true
  · have hd : wiB den 1 1000000000000 = false := by
      rw [Bool.eq_false_iff]
      intro hd
      unfold wiB at hn hd
      simp only [Bool.and_eq_true, decide_eq_true_eq] at hn hd
      omega
    have HN := Lib.hid hn
    have HD := Lib.hid hd
    have HR := Lib.hid hr
    have HB := Lib.hid hb
    clear hn hd h hW hr hb
    go_enter Tryd.func102, Tryd.ntmps102
    go_wp2_with fail
    refine (within_any num 1 1000000000000 _).mono ?_
    rintro e w2 ⟨he, hw2⟩
    subst he
    subst hw2
    rw [HN.out]
    go_wp2_with fail
    refine (within_any den 1 1000000000000 _).mono ?_
    rintro e w2 ⟨he, hw2⟩
    subst he
    subst hw2
    rw [HD.out]
    go_wp2
    exact bodyPost_ret (v := .tuple #[.agg #[.int .i64 0, .int .i64 0, .int .i64 0, .int .i64 0, .int .i64 0, .int .i64 0, .int .i64 0], .int .i64 2]) (by simp [results, Tryd.results102, go_sem]) rfl ⟨rfl, HB.out⟩
  · have hn : wiB num 1 1000000000000 = false := by simpa using hn
    have HN := Lib.hid hn
    have HR := Lib.hid hr
    have HB := Lib.hid hb
    clear hn h hW hr hb
    go_enter Tryd.func102, Tryd.ntmps102
    go_wp2_with fail
    refine (within_any num 1 1000000000000 _).mono ?_
    rintro e w2 ⟨he, hw2⟩
    subst he
    subst hw2
    rw [HN.out]
    go_wp2
    exact bodyPost_ret (v := .tuple #[.agg #[.int .i64 0, .int .i64 0, .int .i64 0, .int .i64 0, .int .i64 0, .int .i64 0, .int .i64 0], .int .i64 2]) (by simp [results, Tryd.results102, go_sem]) rfl ⟨rfl, HB.out⟩
set_option maxRecDepth 100000 in
set_option maxHeartbeats 1000000 in
theorem Of_good (num den : Nat) (w : World) (hp : PrL w) (h1 : 1 ≤ num) (h2 : num ≤ 1000000000000) (h3 : 1 ≤ den) (h4 : den ≤ 1000000000000) :
    Calls Tryd.prog 102 #[.int .i64 (num : Int), .int .i64 (den : Int)] w (RtPost w (ofW num den)) := by
  have hW : ofW num den = if (sts ps6 num).1 = (sts ps6 den).1 then (⟨V6.ofL (ofZ num den), 1⟩, 0) else (Rt.zero, 7) := by
    unfold ofW
    rw [if_pos (by omega), Int.toNat_natCast, Int.toNat_natCast]
  generalize ofW num den = RW at *
  have HW := Lib.hid hW
  have HP := Lib.hid hp
  have HN := Lib.hid (show wiB num 1 1000000000000 = true by unfold wiB; rw [decide_eq_true (by omega), decide_eq_true (by omega)]; rfl)
  have HD := Lib.hid (show wiB den 1 1000000000000 = true by unfold wiB; rw [decide_eq_true (by omega), decide_eq_true (by omega)]; rfl)
  clear hW hp
  have hr1 := (RowI.of_alloc w 24 [0, 0, 0, 0, 0, 0, 0]).alloc (.cells #[.int .i64 0, .int .i64 0, .int .i64 0, .int .i64 0, .int .i64 0, .int .i64 0, .int .i64 1] 24)
  have hr2 := RowI.of_alloc (w.alloc (.cells #[.int .i64 0, .int .i64 0, .int .i64 0, .int .i64 0, .int .i64 0, .int .i64 0, .int .i64 0] 24)) 24 (mixL (ofZ num den) zero6 0 ++ [1])
  rw [World.size_alloc] at hr2
  have hb := (belA w (.cells #[.int .i64 0, .int .i64 0, .int .i64 0, .int .i64 0, .int .i64 0, .int .i64 0, .int .i64 0] 24)).alloc (by simp) (.cells #[.int .i64 0, .int .i64 0, .int .i64 0, .int .i64 0, .int .i64 0, .int .i64 0, .int .i64 1] 24)
  have HR1 := Lib.hid hr1
  have HR2 := Lib.hid hr2
  have HB := Lib.hid hb
  have q0 := (HP.out.below hb).cell 0 _ rfl
  have q1 := (HP.out.below hb).cell 1 _ rfl
  have q2 := (HP.out.below hb).cell 2 _ rfl
  have q3 := (HP.out.below hb).cell 3 _ rfl
  have q4 := (HP.out.below hb).cell 4 _ rfl
  have q5 := (HP.out.below hb).cell 5 _ rfl
  clear hr1 hr2 hb
  go_enter Tryd.func102, Tryd.ntmps102
  go_wp2_with fail
  refine (within_any (num : Int) 1 1000000000000 _).mono ?_
  rintro e w2 ⟨he, hw2⟩
  subst he
  subst hw2
  rw [HN.out]
  go_wp2_with fail
  refine (within_any (den : Int) 1 1000000000000 _).mono ?_
  rintro e w2 ⟨he, hw2⟩
  subst he
  subst hw2
  rw [HD.out]
  go_wp2
  have hr1 : RowI ((w.alloc (.cells #[.int .i64 0, .int .i64 0, .int .i64 0, .int .i64 0, .int .i64 0, .int .i64 0, .int .i64 0] 24)).alloc (.cells #[.int .i64 0, .int .i64 0, .int .i64 0, .int .i64 0, .int .i64 0, .int .i64 0, .int .i64 1] 24)) w.heap.size 24 [0, 0, 0, 0, 0, 0, 0] := HR1.out
  have hr2 : RowI ((w.alloc (.cells #[.int .i64 0, .int .i64 0, .int .i64 0, .int .i64 0, .int .i64 0, .int .i64 0, .int .i64 0] 24)).alloc (.cells #[.int .i64 0, .int .i64 0, .int .i64 0, .int .i64 0, .int .i64 0, .int .i64 0, .int .i64 1] 24)) (w.heap.size + 1) 24 (mixL (ofZ num den) zero6 0 ++ [1]) := HR2.out
  have hb : Below w.heap.size w ((w.alloc (.cells #[.int .i64 0, .int .i64 0, .int .i64 0, .int .i64 0, .int .i64 0, .int .i64 0, .int .i64 0] 24)).alloc (.cells #[.int .i64 0, .int .i64 0, .int .i64 0, .int .i64 0, .int .i64 0, .int .i64 0, .int .i64 1] 24)) := HB.out
  clear q0 q1 q2 q3 q4 q5 HR1 HR2 HB
  generalize ((w.alloc (.cells #[.int .i64 0, .int .i64 0, .int .i64 0, .int .i64 0, .int .i64 0, .int .i64 0, .int .i64 0] 24)).alloc (.cells #[.int .i64 0, .int .i64 0, .int .i64 0, .int .i64 0, .int .i64 0, .int .i64 0, .int .i64 1] 24)) = W0 at *
  have HR1 := Lib.hid hr1
  have HR2 := Lib.hid hr2
  have HB := Lib.hid hb
  clear hr1 hr2 hb HN HD HP
  go_loopw [0, 1, 22] (fun nv dv iv wr => OfRel w num den nv dv iv wr) (fun _ _ iv _ => 6 - (intOf iv).toNat)
  case atStart => exact ⟨0, Nat.zero_le _, rfl, rfl, rfl, HR1.out, HR2.out, HB.out⟩
  case round =>
    clear HR1 HR2 HB
    obtain ⟨i, hi, rfl, rfl, rfl, hr1, hr2, hb⟩ := hrel
    have HR1 := Lib.hid hr1
    have HR2 := Lib.hid hr2
    have HB := Lib.hid hb
    clear hr1 hr2 hb
    have hpt : ∀ p ∈ ps6.take i, primeN p := fun p hp => ps6_prime p (List.mem_of_mem_take hp)
    have an1 := sts_le _ hpt num (by omega)
    have an2 := sts_pos _ hpt num (by omega)
    have ad1 := sts_le _ hpt den (by omega)
    have ad2 := sts_pos _ hpt den (by omega)
    by_cases hil : i < 6
    · have hilI : (i : Int) < 6 := by omega
      have hiI : (0 : Int) ≤ (i : Int) := by omega
      obtain ⟨p, hpi⟩ : ∃ p, psI[i]? = some p := ⟨psI[i]'(by simpa [psI] using hil), List.getElem?_eq_getElem _⟩
      have hix := idx6p i p hpi
      obtain ⟨q, rfl, hq, hq2, hq3⟩ := psI_nat i p hpi
      have htn := sts_snoc q (ps6.take i) num
      have htd := sts_snoc q (ps6.take i) den
      have htk : ps6.take (i + 1) = ps6.take i ++ [q] := by rw [List.take_add_one, hq]; rfl
      rw [← htk] at htn htd
      have hz := ofZ_at (num := num) (den := den) hq
      have hset := mixL_set (Z := ofZ num den) (O := zero6) (ofZ_len num den) hz
      obtain ⟨o, ho⟩ := mixL_at (Z := ofZ num den) (O := zero6) (i := i) (ofZ_len num den) hil
      have hl6 : (mixL (ofZ num den) zero6 i).length = 6 := by
        have := ofZ_len num den
        unfold mixL
        rw [List.length_append, List.length_take, List.length_drop, this]
        show min i 6 + (6 - i) = 6
        omega
      generalize (sts (ps6.take i) num).1 = a at *
      generalize (sts (ps6.take i) den).1 = b at *
      have sa := st_le (p := q) hq2 an2
      have sb := st_le (p := q) hq2 ad2
      have ta := fun W => takeOut_any a q W (by omega) (by omega) hq2 hq3
      have tb := fun W => takeOut_any b q W (by omega) (by omega) hq2 hq3
      have pa := st_pos (p := q) hq2 an2
      have pb := st_pos (p := q) hq2 ad2
      have hza : (sts (ps6.take (i + 1)) num).1 = (st q a).1 := congrArg Prod.fst htn
      have hzb : (sts (ps6.take (i + 1)) den).1 = (st q b).1 := congrArg Prod.fst htd
      generalize (st q a).1 = ar at *
      generalize (st q a).2 = at_ at *
      generalize (st q b).1 = br at *
      generalize (st q b).2 = bt at *
      obtain ⟨D, hD⟩ : ∃ D : Int, (at_ : Int) - (bt : Int) = D := ⟨_, rfl⟩
      rw [hD] at hset
      have kz := HR2.out.cell (i := i) (x := o) (by rw [List.getElem?_append_left (by omega)]; exact ho)
      have fz := HR2.out.frozen i
      have HTA := Lib.hid ta
      have HTB := Lib.hid tb
      have HZA := Lib.hid hza
      have HZB := Lib.hid hzb
      have HSET := Lib.hid hset
      have HL6 := Lib.hid hl6
      clear hpi hq htn htd htk hz hset ho ta tb hza hzb hl6 an2 ad2 hpt
      go_wp2_with fail
      refine (HTA.out _).mono ?_
      rintro e w2 ⟨he, hw2⟩
      subst he
      subst hw2
      go_wp2_with fail
      refine (HTB.out _).mono ?_
      rintro e w2 ⟨he, hw2⟩
      subst he
      subst hw2
      go_wp2
      refine ⟨⟨i + 1, by omega, by go_num, by rw [HZA.out], by rw [HZB.out], HR1.out.other _ (by omega), ?_, HB.out.setCell (by show w.heap.size ≤ w.heap.size + 1; omega) _⟩, by simp [intOf]; omega⟩
      have h := HR2.out.set i D
      rw [List.set_append, if_pos (by rw [HL6.out]; exact hil), HSET.out] at h
      exact h
    · obtain rfl : i = 6 := by omega
      have htk : ps6.take 6 = ps6 := rfl
      rw [htk] at an1 an2 ad1 ad2 ⊢
      have hm : mixL (ofZ num den) zero6 6 = ofZ num den := by
        unfold mixL
        rw [List.take_of_length_le (by rw [ofZ_len]; omega), List.drop_of_length_le (by show 6 ≤ 6; omega), List.append_nil]
      have hr2 := HR2.out
      rw [hm] at hr2
      have hWE := HW.out
      have hl := ofZ_len num den
      clear hm HR2 HW htk
      generalize ofZ num den = Z at *
      match Z, hl with
      | [z0, z1, z2, z3, z4, z5], _ =>
      generalize (sts ps6 num).1 = a at *
      generalize (sts ps6 den).1 = b at *
      have HWE := Lib.hid hWE
      clear hWE
      obtain ⟨c0, c1, c2, c3, c4, c5, c6⟩ := HR1.out.r7
      simp only [Nat.zero_add] at c0 c1 c2 c3 c4 c5 c6
      have f0 := HR1.out.frozen 0
      have f1 := HR1.out.frozen 1
      have f2 := HR1.out.frozen 2
      have f3 := HR1.out.frozen 3
      have f4 := HR1.out.frozen 4
      have f5 := HR1.out.frozen 5
      have f6 := HR1.out.frozen 6
      obtain ⟨d0, d1, d2, d3, d4, d5, d6⟩ := RowI.r7 (x0 := z0) (x1 := z1) (x2 := z2) (x3 := z3) (x4 := z4) (x5 := z5) (d := 1) hr2
      simp only [Nat.zero_add] at d0 d1 d2 d3 d4 d5 d6
      clear hr2
      by_cases hab : a = b
      · subst hab
        have hWE := HWE.out
        rw [if_pos rfl] at hWE
        have HWF := Lib.hid hWE
        clear hWE HWE
        go_wp2
        change bodyPost _ _ _ _ _ (putR wr w.heap.size z0 z1 z2 z3 z4 z5 1)
        clear c0 c1 c2 c3 c4 c5 c6
        obtain ⟨c0, c1, c2, c3, c4, c5, c6⟩ := (putR_row HR1.out z0 z1 z2 z3 z4 z5 1).r7
        have hB := putR_below HB.out (Nat.le_refl w.heap.size) z0 z1 z2 z3 z4 z5 1
        generalize putR wr w.heap.size z0 z1 z2 z3 z4 z5 1 = W' at *
        simp only [Nat.zero_add] at c0 c1 c2 c3 c4 c5 c6
        refine bodyPost_ret (v := .tuple #[.agg #[.int .i64 z0, .int .i64 z1, .int .i64 z2, .int .i64 z3, .int .i64 z4, .int .i64 z5, .int .i64 1], .int .i64 0]) (by simp [results, Tryd.results102, c0, c1, c2, c3, c4, c5, c6, go_sem]) rfl ⟨?_, hB⟩
        rw [HWF.out]
        rfl
      · have hWE := HWE.out
        rw [if_neg hab] at hWE
        have HWF := Lib.hid hWE
        clear hWE HWE
        have habI : ¬ (a : Int) = (b : Int) := by omega
        clear hab d0 d1 d2 d3 d4 d5 d6
        go_wp2
        change bodyPost _ _ _ _ _ (putR wr w.heap.size 0 0 0 0 0 0 0)
        clear c0 c1 c2 c3 c4 c5 c6
        obtain ⟨c0, c1, c2, c3, c4, c5, c6⟩ := (putR_row HR1.out 0 0 0 0 0 0 0).r7
        have hB := putR_below HB.out (Nat.le_refl w.heap.size) 0 0 0 0 0 0 0
        generalize putR wr w.heap.size 0 0 0 0 0 0 0 = W' at *
        simp only [Nat.zero_add] at c0 c1 c2 c3 c4 c5 c6
        refine bodyPost_ret (v := .tuple #[.agg #[.int .i64 0, .int .i64 0, .int .i64 0, .int .i64 0, .int .i64 0, .int .i64 0, .int .i64 0], .int .i64 7]) (by simp [results, Tryd.results102, c0, c1, c2, c3, c4, c5, c6, go_sem]) rfl ⟨?_, hB⟩
        rw [HWF.out]
        rfl
theorem Of_any (num den : Int) (w : World) (hp : PrL w) : Calls Tryd.prog 102 #[.int .i64 num, .int .i64 den] w (RtPost w (ofW num den)) := by
  by_cases h : 1 ≤ num ∧ num ≤ 1000000000000 ∧ 1 ≤ den ∧ den ≤ 1000000000000
  · obtain ⟨h1, h2, h3, h4⟩ := h
    obtain ⟨n, rfl⟩ := Int.eq_ofNat_of_zero_le (show 0 ≤ num by omega)
    obtain ⟨d, rfl⟩ := Int.eq_ofNat_of_zero_le (show 0 ≤ den by omega)
    exact Of_good n d w hp (by omega) (by omega) (by omega) (by omega)
  · exact Of_bad num den w h
end Go.Proofs.YtmbcejldifobnaaDoor

namespace Go.Proofs.YtmbcejldifobnaaDoor
open Go.RowKit
def RgRel (w : World) (G M : Nat) (va vb : Value) (wr : World) : Prop := ∃ x y : Nat, va = .int .i64 (x : Int) ∧ vb = .int .i64 (y : Int) ∧ x ≤ M ∧ y ≤ M ∧ Nat.gcd x y = G ∧ Drawn w wr
set_option maxHeartbeats 1000000 in
theorem rgcd_any (a b : Nat) (w : World) (h1 : a ≤ 9000000000000000000) (h2 : b ≤ 9000000000000000000) :
    Calls Tryd.prog 91 #[.int .i64 (a : Int), .int .i64 (b : Int)] w fun e w' => e = .returned (.int .i64 ((Nat.gcd a b : Nat) : Int)) ∧ Drawn w w' := by
  obtain ⟨G, hG⟩ : ∃ G, G = Nat.gcd a b := ⟨_, rfl⟩
  rw [← hG]
  have HG := Lib.hid hG.symm
  clear hG
  go_enter Tryd.func91, Tryd.ntmps91
  go_wp2
  go_loopw [0, 1] (fun va vb wr => RgRel w G 9000000000000000000 va vb wr) (fun _ vb _ => mAbs vb)
  case atStart => exact ⟨a, b, rfl, rfl, h1, h2, HG.out, Drawn.refl w⟩
  case round =>
    obtain ⟨x, y, rfl, rfl, x1, y1, hg, hdr⟩ := hrel
    have HH := Lib.hid hg
    have HDR := Lib.hid hdr
    clear hg hdr
    by_cases hy : y = 0
    · subst hy
      have hxG : x = G := by have h := HH.out; rw [Nat.gcd_zero_right] at h; exact h
      have HX := Lib.hid hxG
      clear hxG
      go_wp2
      go_ret
      exact ⟨ret_int (by rw [HX.out]), HDR.out⟩
    · have q0 : ¬ (y : Int) = 0 := by omega
      have q1 : ((y : Int) == 0) = false := beq_false_of_ne q0
      have q2 : ((y : Int) != 0) = true := by simp [hy]
      obtain ⟨r, hr⟩ : ∃ r, r = x % y := ⟨_, rfl⟩
      have hrI : (x : Int) % (y : Int) = (r : Int) := by rw [hr]; exact (Int.natCast_emod x y).symm
      have hst : Nat.gcd y r = G := by rw [← HH.out, hr, Nat.gcd_comm x y, Nat.gcd_rec y x, Nat.gcd_comm]
      have hlt : r < y := by rw [hr]; exact Nat.mod_lt _ (by omega)
      have HST := Lib.hid hst
      clear hst hr
      go_wp2
      go_quiet (fail)
      go_wp2
      first
        | exact ⟨⟨y, r, rfl, by rw [hrI], y1, by omega, HST.out, HDR.out.trans ⟨_, rfl⟩⟩, by rw [hrI]; simp [mAbs]; omega⟩
        | (go_roundw
           case rel => exact ⟨y, r, rfl, by rw [hrI], y1, by omega, HST.out, HDR.out.trans ⟨_, rfl⟩⟩
           case measure => simp [mAbs]; omega)
def RcRel (w : World) (l : List Int) (d : Int) (gv iv : Value) (wr : World) : Prop := ∃ (i g : Nat), i ≤ 6 ∧ iv = .int .i64 (i : Int) ∧ gv = .int .i64 (g : Int) ∧ g ≤ 100000 ∧ (∀ n ∈ l.take i, fitB n = true) ∧ gl (l.drop i) g = gl l d.natAbs ∧ Drawn w wr
theorem drop_at {l : List Int} {i : Nat} {n : Int} (h : l[i]? = some n) : l.drop i = n :: l.drop (i + 1) := by
  have hi := (List.getElem?_eq_some_iff.1 h).1
  rw [List.drop_eq_getElem_cons hi]
  congr 1
  rw [List.getElem?_eq_getElem hi] at h
  exact Option.some.inj h
set_option maxRecDepth 100000 in
set_option maxHeartbeats 2000000 in
theorem rCheck_any (x0 x1 x2 x3 x4 x5 xd : Int) (w : World) : Calls Tryd.prog 43 #[.agg #[.int .i64 x0, .int .i64 x1, .int .i64 x2, .int .i64 x3, .int .i64 x4, .int .i64 x5, .int .i64 xd]] w fun e w' => e = .returned (.int .i64 (Rt.err ⟨⟨x0, x1, x2, x3, x4, x5⟩, xd⟩)) ∧ Below w.heap.size w w' := by
  have herr : Rt.err ⟨⟨x0, x1, x2, x3, x4, x5⟩, xd⟩ = if (([x0, x1, x2, x3, x4, x5].all fitB) && wiB xd 1 1000) = true then (if gl [x0, x1, x2, x3, x4, x5] xd.natAbs = 1 then 0 else 6) else 2 := by
    unfold Rt.err
    rw [fits_list]
    rfl
  have HE := Lib.hid herr
  clear herr
  generalize Rt.err ⟨⟨x0, x1, x2, x3, x4, x5⟩, xd⟩ = E at *
  have HB := Lib.hid (belA w (.cells #[.int .i64 x0, .int .i64 x1, .int .i64 x2, .int .i64 x3, .int .i64 x4, .int .i64 x5, .int .i64 xd] 24))
  have HR := Lib.hid (RowI.of_alloc w 24 [x0, x1, x2, x3, x4, x5, xd])
  by_cases hd : 1 ≤ xd ∧ xd ≤ 1000
  case neg =>
    have hE : E = 2 := by
      rw [HE.out, if_neg]
      intro h
      rw [Bool.and_eq_true] at h
      have h2 := h.2
      unfold wiB at h2
      simp only [Bool.and_eq_true, decide_eq_true_eq] at h2
      exact hd h2
    subst hE
    clear HE HR
    by_cases h1 : xd < 1
    · go_enter Tryd.func43, Tryd.ntmps43
      go_wp2
      go_ret
      exact ⟨rfl, HB.out⟩
    · have h2 : 1000 < xd := by omega
      clear hd
      go_enter Tryd.func43, Tryd.ntmps43
      go_wp2
      go_ret
      exact ⟨rfl, HB.out⟩
  obtain ⟨hd1, hd2⟩ := hd
  obtain ⟨dn, rfl⟩ := Int.eq_ofNat_of_zero_le (show 0 ≤ xd by omega)
  rw [Int.natAbs_natCast] at HE
  have hwd : wiB (dn : Int) 1 1000 = true := by unfold wiB; rw [decide_eq_true hd1, decide_eq_true hd2]; rfl
  rw [hwd, Bool.and_true] at HE
  clear hwd
  go_enter Tryd.func43, Tryd.ntmps43
  go_wp2
  have hr0 : RowI (w.alloc (.cells #[.int .i64 x0, .int .i64 x1, .int .i64 x2, .int .i64 x3, .int .i64 x4, .int .i64 x5, .int .i64 (dn : Int)] 24)) w.heap.size 24 [x0, x1, x2, x3, x4, x5, (dn : Int)] := HR.out
  have hb0 : Below w.heap.size w (w.alloc (.cells #[.int .i64 x0, .int .i64 x1, .int .i64 x2, .int .i64 x3, .int .i64 x4, .int .i64 x5, .int .i64 (dn : Int)] 24)) := HB.out
  clear HR HB
  generalize w.alloc (.cells #[.int .i64 x0, .int .i64 x1, .int .i64 x2, .int .i64 x3, .int .i64 x4, .int .i64 x5, .int .i64 (dn : Int)] 24) = W0 at *
  have HR := Lib.hid hr0
  have HB := Lib.hid hb0
  clear hr0 hb0
  go_loopw [3, 4] (fun gv iv wr => RcRel W0 [x0, x1, x2, x3, x4, x5] (dn : Int) gv iv wr) (fun _ iv _ => 6 - (intOf iv).toNat)
  case atStart => exact ⟨0, dn, Nat.zero_le _, rfl, rfl, by omega, fun n h => (by cases h), by rw [Int.natAbs_natCast]; rfl, Drawn.refl _⟩
  case round =>
    obtain ⟨i, g, hi, rfl, rfl, hg, hok, hgl, hdr⟩ := hrel
    have HOK := Lib.hid hok
    have HGL := Lib.hid hgl
    have HDR := Lib.hid hdr
    have hrw := HR.out.up hdr.below
    have HRW := Lib.hid hrw
    clear hok hgl hdr hrw
    by_cases hil : i < 6
    · obtain ⟨n, hn⟩ : ∃ n, [x0, x1, x2, x3, x4, x5][i]? = some n := ⟨[x0, x1, x2, x3, x4, x5][i], List.getElem?_eq_getElem _⟩
      have hilI : (i : Int) < 6 := by omega
      have hiI : (0 : Int) ≤ (i : Int) := by omega
      have k0 := HRW.out.cell (at7 (d := (dn : Int)) hn)
      have HDA := Lib.hid (drop_at hn)
      have HN := Lib.hid hn
      clear hn
      have hbad : fitB n = false → E = 2 := fun hf => by
        rw [HE.out, if_neg]
        intro h
        have := List.all_eq_true.1 h n (List.mem_of_getElem? HN.out)
        rw [hf] at this
        cases this
      have HBAD := Lib.hid hbad
      clear hbad
      by_cases h1 : n < -100000
      · have hE := HBAD.out (by unfold fitB; rw [decide_eq_false (by omega)]; rfl)
        subst hE
        go_wp2
        go_ret
        exact ⟨rfl, HB.out.trans (HDR.out.below.mono HB.out.size)⟩
      by_cases h2 : 100000 < n
      · have hE := HBAD.out (by unfold fitB; rw [decide_eq_false (show ¬ n ≤ 100000 by omega), Bool.and_false])
        subst hE
        go_wp2
        go_ret
        exact ⟨rfl, HB.out.trans (HDR.out.below.mono HB.out.size)⟩
      have hfit : fitB n = true := fitB_iff.2 ⟨by omega, by omega⟩
      obtain ⟨a, ha⟩ : ∃ a : Nat, (a : Int) = max n (-n) := ⟨n.natAbs, by omega⟩
      have ha2 : max n (-n) = (a : Int) := ha.symm
      have hab : a = n.natAbs := by omega
      have hal : a ≤ 100000 := by omega
      have hgc := fun W => rgcd_any g a W (by omega) (by omega)
      have hgb : Nat.gcd g a ≤ 100000 := by
        rcases Nat.eq_zero_or_pos g with h0 | h0
        · subst h0; rw [Nat.gcd_zero_left]; exact hal
        · exact Nat.le_trans (Nat.gcd_le_left _ h0) hg
      obtain ⟨q, hq⟩ : ∃ q, q = Nat.gcd g a := ⟨_, rfl⟩
      rw [← hq] at hgc hgb
      have HQ := Lib.hid hq
      have HGC := Lib.hid hgc
      have HFIT := Lib.hid hfit
      have HAB := Lib.hid hab
      clear hgc hfit hq hab ha
      go_wp2
      go_quiet ((go_at_call 91; exact Calls.quiet_of (HGC.out _)))
      go_wp2
      refine ⟨⟨i + 1, q, by omega, by go_num, rfl, hgb, ?_, ?_, HDR.out.trans ⟨_, rfl⟩⟩, by simp [intOf]; omega⟩
      · intro y hy
        rw [List.take_add_one, HN.out, List.mem_append] at hy
        rcases hy with h | h
        · exact HOK.out y h
        · simp at h; subst h; exact HFIT.out
      · rw [← HGL.out, HDA.out, HQ.out, HAB.out]
        rfl
    · obtain rfl : i = 6 := by omega
      have hall : [x0, x1, x2, x3, x4, x5].all fitB = true := List.all_eq_true.2 fun y hy => HOK.out y (by simpa using hy)
      have hg1 : g = gl [x0, x1, x2, x3, x4, x5] dn := by
        have h := HGL.out
        rw [Int.natAbs_natCast] at h
        exact h
      have hE := HE.out
      rw [if_pos hall, ← hg1] at hE
      have HE2 := Lib.hid hE
      clear hE HE hall hg1
      by_cases h1 : g = 1
      · subst h1
        have hE := HE2.out
        rw [if_pos rfl] at hE
        subst hE
        go_wp2
        go_ret
        exact ⟨rfl, HB.out.trans (HDR.out.below.mono HB.out.size)⟩
      · have hE := HE2.out
        rw [if_neg h1] at hE
        subst hE
        have h1I : ¬ (g : Int) = 1 := by omega
        go_wp2
        go_ret
        exact ⟨rfl, HB.out.trans (HDR.out.below.mono HB.out.size)⟩
end Go.Proofs.YtmbcejldifobnaaDoor

namespace Go.Proofs.YtmbcejldifobnaaDoor
open Go.RowKit
def MaRel (W0 : World) (l : List Int) (d : Nat) (gv iv : Value) (wr : World) : Prop := ∃ (i g : Nat), i ≤ 6 ∧ iv = .int .i64 (i : Int) ∧ gv = .int .i64 (g : Int) ∧ 1 ≤ g ∧ g ≤ 1000000000 ∧ gl (l.drop i) g = gl l d ∧ Drawn W0 wr
def MbRel (w W1 : World) (B2 : Nat) (X Q : List Int) (iv : Value) (wr : World) : Prop := ∃ i : Nat, i ≤ 6 ∧ iv = .int .i64 (i : Int) ∧ (∀ n ∈ Q.take i, fitB n = true) ∧
  RowI wr w.heap.size 89 X ∧ RowI wr (w.heap.size + 1) 24 [0, 0, 0, 0, 0, 0, 0] ∧ RowI wr B2 24 (mixL Q zero6 i ++ [0]) ∧ Below w.heap.size w wr
set_option maxRecDepth 100000 in
set_option maxHeartbeats 2000000 in
theorem made_any (x0 x1 x2 x3 x4 x5 : Int) (d : Nat) (w : World) (hd1 : 1 ≤ d) (hd2 : d ≤ 1000000000) (hx : ∀ n ∈ [x0, x1, x2, x3, x4, x5], -1000000000 ≤ n ∧ n ≤ 1000000000) :
    Calls Tryd.prog 50 #[.agg #[.int .i64 x0, .int .i64 x1, .int .i64 x2, .int .i64 x3, .int .i64 x4, .int .i64 x5], .int .i64 (d : Int)] w (RtPost w (lowW ⟨x0, x1, x2, x3, x4, x5⟩ (d : Int))) := by
  obtain ⟨G, hG⟩ : ∃ G, G = gl [x0, x1, x2, x3, x4, x5] d := ⟨_, rfl⟩
  have hgs : V6.gs ⟨x0, x1, x2, x3, x4, x5⟩ (d : Int) = (G : Int) := by
    unfold V6.gs
    rw [if_neg (by omega)]
    unfold V6.g
    rw [Int.natAbs_natCast, hG]
    rfl
  have hgp : 0 < G := by rw [hG]; exact gl_pos (by omega)
  have hgd : G ∣ d := by rw [hG]; exact (gl_dvd _ _).1
  obtain ⟨e, he⟩ : ∃ e : Nat, e = d / G := ⟨_, rfl⟩
  have he1 : 1 ≤ e := by rw [he]; exact Nat.div_pos (Nat.le_of_dvd (by omega) hgd) hgp
  have hed : e ≤ d := by rw [he]; exact Nat.div_le_self _ _
  have heI : (d : Int) / (G : Int) = (e : Int) := by rw [he]; exact (Int.natCast_ediv d G).symm
  have het : (d : Int).tdiv (G : Int) = (e : Int) := by rw [he]; exact (Int.ofNat_tdiv d G).symm
  have hGd : G ≤ d := Nat.le_of_dvd (by omega) hgd
  have hW : lowW ⟨x0, x1, x2, x3, x4, x5⟩ (d : Int) = if Rt.fits ⟨⟨x0.tdiv (G : Int), x1.tdiv (G : Int), x2.tdiv (G : Int), x3.tdiv (G : Int), x4.tdiv (G : Int), x5.tdiv (G : Int)⟩, (e : Int)⟩ = true then (⟨⟨x0.tdiv (G : Int), x1.tdiv (G : Int), x2.tdiv (G : Int), x3.tdiv (G : Int), x4.tdiv (G : Int), x5.tdiv (G : Int)⟩, (e : Int)⟩, 0) else (Rt.zero, 7) := by
    unfold lowW lowR
    rw [hgs, het]
    rfl
  generalize lowW ⟨x0, x1, x2, x3, x4, x5⟩ (d : Int) = RW at *
  have HW := Lib.hid hW
  have HG := Lib.hid hG
  have HX := Lib.hid hx
  clear hW hgs hgd he het hx hG
  go_enter Tryd.func50, Tryd.ntmps50
  go_wp2
  have hr1 : RowI ((w.alloc (.cells #[.int .i64 x0, .int .i64 x1, .int .i64 x2, .int .i64 x3, .int .i64 x4, .int .i64 x5] 89)).alloc (.cells #[.int .i64 0, .int .i64 0, .int .i64 0, .int .i64 0, .int .i64 0, .int .i64 0, .int .i64 0] 24)) w.heap.size 89 [x0, x1, x2, x3, x4, x5] := (RowI.of_alloc w 89 [x0, x1, x2, x3, x4, x5]).alloc _
  have hr2 : RowI ((w.alloc (.cells #[.int .i64 x0, .int .i64 x1, .int .i64 x2, .int .i64 x3, .int .i64 x4, .int .i64 x5] 89)).alloc (.cells #[.int .i64 0, .int .i64 0, .int .i64 0, .int .i64 0, .int .i64 0, .int .i64 0, .int .i64 0] 24)) (w.heap.size + 1) 24 [0, 0, 0, 0, 0, 0, 0] := by
    have h := RowI.of_alloc (w.alloc (.cells #[.int .i64 x0, .int .i64 x1, .int .i64 x2, .int .i64 x3, .int .i64 x4, .int .i64 x5] 89)) 24 [0, 0, 0, 0, 0, 0, 0]
    rw [World.size_alloc] at h
    exact h
  have hb0 : Below w.heap.size w ((w.alloc (.cells #[.int .i64 x0, .int .i64 x1, .int .i64 x2, .int .i64 x3, .int .i64 x4, .int .i64 x5] 89)).alloc (.cells #[.int .i64 0, .int .i64 0, .int .i64 0, .int .i64 0, .int .i64 0, .int .i64 0, .int .i64 0] 24)) := (belA w _).alloc (by simp) _
  generalize (w.alloc (.cells #[.int .i64 x0, .int .i64 x1, .int .i64 x2, .int .i64 x3, .int .i64 x4, .int .i64 x5] 89)).alloc (.cells #[.int .i64 0, .int .i64 0, .int .i64 0, .int .i64 0, .int .i64 0, .int .i64 0, .int .i64 0] 24) = W0 at *
  have HR1 := Lib.hid hr1
  have HR2 := Lib.hid hr2
  have HB := Lib.hid hb0
  clear hr1 hr2 hb0
  go_loopw [6, 7] (fun gv iv wr => MaRel W0 [x0, x1, x2, x3, x4, x5] d gv iv wr) (fun _ iv _ => 6 - (intOf iv).toNat)
  case atStart => exact ⟨0, d, Nat.zero_le _, rfl, rfl, hd1, hd2, rfl, Drawn.refl _⟩
  case round =>
    obtain ⟨i, g, hi, rfl, rfl, hg1, hg2, hgl, hdr⟩ := hrel
    have HGL := Lib.hid hgl
    have HDR := Lib.hid hdr
    have hrw := HR1.out.up hdr.below
    have HRW := Lib.hid hrw
    clear hgl hdr hrw
    by_cases hil : i < 6
    · obtain ⟨n, hn⟩ : ∃ n, [x0, x1, x2, x3, x4, x5][i]? = some n := ⟨[x0, x1, x2, x3, x4, x5][i], List.getElem?_eq_getElem _⟩
      have hilI : (i : Int) < 6 := by omega
      have hiI : (0 : Int) ≤ (i : Int) := by omega
      have k0 := HRW.out.cell hn
      have hnb := HX.out n (List.mem_of_getElem? hn)
      have HDA := Lib.hid (drop_at hn)
      clear hn
      obtain ⟨a, ha⟩ : ∃ a : Nat, (a : Int) = max n (-n) := ⟨n.natAbs, by omega⟩
      have ha2 : max n (-n) = (a : Int) := ha.symm
      have hab : a = n.natAbs := by omega
      have hal : a ≤ 1000000000 := by omega
      have hgc := fun W => rgcd_any g a W (by omega) (by omega)
      have hgb : Nat.gcd g a ≤ 1000000000 := Nat.le_trans (Nat.gcd_le_left _ hg1) hg2
      have hgq : 1 ≤ Nat.gcd g a := Nat.gcd_pos_of_pos_left _ hg1
      obtain ⟨q, hq⟩ : ∃ q, q = Nat.gcd g a := ⟨_, rfl⟩
      rw [← hq] at hgc hgb hgq
      have HQ := Lib.hid hq
      have HGC := Lib.hid hgc
      have HAB := Lib.hid hab
      clear hgc hq hab ha
      go_wp2
      go_quiet ((go_at_call 91; exact Calls.quiet_of (HGC.out _)))
      go_wp2
      refine ⟨⟨i + 1, q, by omega, by go_num, rfl, hgq, hgb, ?_, HDR.out.trans ⟨_, rfl⟩⟩, by simp [intOf]; omega⟩
      rw [← HGL.out, HDA.out, HQ.out, HAB.out]
      rfl
    · obtain rfl : i = 6 := by omega
      have hgG : g = G := by rw [HG.out]; exact HGL.out
      subst hgG
      have hr1 := (HR1.out.up HDR.out.below).alloc (.cells #[.int .i64 0, .int .i64 0, .int .i64 0, .int .i64 0, .int .i64 0, .int .i64 0, .int .i64 0] 24)
      have hr2 := (HR2.out.up HDR.out.below).alloc (.cells #[.int .i64 0, .int .i64 0, .int .i64 0, .int .i64 0, .int .i64 0, .int .i64 0, .int .i64 0] 24)
      have hr3 := RowI.of_alloc wr 24 (mixL [x0.tdiv (g : Int), x1.tdiv (g : Int), x2.tdiv (g : Int), x3.tdiv (g : Int), x4.tdiv (g : Int), x5.tdiv (g : Int)] zero6 0 ++ [0])
      have hbw : Below w.heap.size w wr := HB.out.trans (HDR.out.below.mono HB.out.size)
      have hb := hbw.trans ((belA wr (.cells #[.int .i64 0, .int .i64 0, .int .i64 0, .int .i64 0, .int .i64 0, .int .i64 0, .int .i64 0] 24)).mono hbw.size)
      have hlt : w.heap.size + 1 < wr.heap.size := (HR2.out.up HDR.out.below).lt
      have hg0 : ¬ (g : Int) = 0 := by omega
      have hg0b : ((g : Int) == 0) = false := beq_false_of_ne hg0
      have HR2w := Lib.hid (HR2.out.up HDR.out.below)
      have HBw := Lib.hid hbw
      clear HR1 HR2 HB HGL HDR HRW HG hbw
      have HR1 := Lib.hid hr1
      have HR2 := Lib.hid hr2
      have HR3 := Lib.hid (show RowI (wr.alloc (.cells #[.int .i64 0, .int .i64 0, .int .i64 0, .int .i64 0, .int .i64 0, .int .i64 0, .int .i64 0] 24)) wr.heap.size 24 (mixL [x0.tdiv (g : Int), x1.tdiv (g : Int), x2.tdiv (g : Int), x3.tdiv (g : Int), x4.tdiv (g : Int), x5.tdiv (g : Int)] zero6 0 ++ [0]) from hr3)
      have HB := Lib.hid hb
      have heI2 : IntKind.i64.wrap (e : Int) = (e : Int) := IntWalk.i64_in _ (by omega)
      clear hr1 hr2 hr3 hb
      by_cases he3 : 1000 < (e : Int)
      · have hWE := HW.out
        rw [if_neg (by rw [fits_list]; unfold wiB; rw [decide_eq_false (show ¬ (e : Int) ≤ 1000 by omega), Bool.and_false, Bool.and_false]; exact Bool.false_ne_true)] at hWE
        have HWE := Lib.hid hWE
        clear hWE HW
        obtain ⟨c0, c1, c2, c3, c4, c5, c6⟩ := HR2w.out.r7
        simp only [Nat.zero_add] at c0 c1 c2 c3 c4 c5 c6
        have f0 := HR2w.out.frozen 0
        have f1 := HR2w.out.frozen 1
        have f2 := HR2w.out.frozen 2
        have f3 := HR2w.out.frozen 3
        have f4 := HR2w.out.frozen 4
        have f5 := HR2w.out.frozen 5
        have f6 := HR2w.out.frozen 6
        go_wp2
        change bodyPost _ _ _ _ _ ((putR wr (w.heap.size + 1) 0 0 0 0 0 0 0).alloc (.cells #[.int .i64 0, .int .i64 0, .int .i64 0, .int .i64 0, .int .i64 0, .int .i64 0, .int .i64 0] 24))
        clear c0 c1 c2 c3 c4 c5 c6
        obtain ⟨c0, c1, c2, c3, c4, c5, c6⟩ := ((putR_row HR2w.out 0 0 0 0 0 0 0).alloc (.cells #[.int .i64 0, .int .i64 0, .int .i64 0, .int .i64 0, .int .i64 0, .int .i64 0, .int .i64 0] 24)).r7
        have hB0 := putR_below HBw.out (show w.heap.size ≤ w.heap.size + 1 by omega) 0 0 0 0 0 0 0
        have hB := hB0.trans ((belA (putR wr (w.heap.size + 1) 0 0 0 0 0 0 0) (.cells #[.int .i64 0, .int .i64 0, .int .i64 0, .int .i64 0, .int .i64 0, .int .i64 0, .int .i64 0] 24)).mono hB0.size)
        generalize (putR wr (w.heap.size + 1) 0 0 0 0 0 0 0).alloc (.cells #[.int .i64 0, .int .i64 0, .int .i64 0, .int .i64 0, .int .i64 0, .int .i64 0, .int .i64 0] 24) = W' at *
        simp only [Nat.zero_add] at c0 c1 c2 c3 c4 c5 c6
        refine bodyPost_ret (v := .tuple #[.agg #[.int .i64 0, .int .i64 0, .int .i64 0, .int .i64 0, .int .i64 0, .int .i64 0, .int .i64 0], .int .i64 7]) (by simp [results, Tryd.results50, c0, c1, c2, c3, c4, c5, c6, go_sem]) rfl ⟨?_, hB⟩
        rw [HWE.out]
        rfl
      go_wp2
      have hr1 : RowI (wr.alloc (.cells #[.int .i64 0, .int .i64 0, .int .i64 0, .int .i64 0, .int .i64 0, .int .i64 0, .int .i64 0] 24)) w.heap.size 89 [x0, x1, x2, x3, x4, x5] := HR1.out
      have hr2 : RowI (wr.alloc (.cells #[.int .i64 0, .int .i64 0, .int .i64 0, .int .i64 0, .int .i64 0, .int .i64 0, .int .i64 0] 24)) (w.heap.size + 1) 24 [0, 0, 0, 0, 0, 0, 0] := HR2.out
      have hr3 := HR3.out
      have hb := HB.out
      clear HR1 HR2 HR3 HB
      generalize hB2 : wr.heap.size = B2 at *
      clear hB2
      generalize wr.alloc (.cells #[.int .i64 0, .int .i64 0, .int .i64 0, .int .i64 0, .int .i64 0, .int .i64 0, .int .i64 0] 24) = W2 at *
      have HR1 := Lib.hid hr1
      have HR2 := Lib.hid hr2
      have HR3 := Lib.hid hr3
      have HB := Lib.hid hb
      clear hr1 hr2 hr3 hb
      go_loopw [9] (fun iv wr => MbRel w W2 B2 [x0, x1, x2, x3, x4, x5] [x0.tdiv (g : Int), x1.tdiv (g : Int), x2.tdiv (g : Int), x3.tdiv (g : Int), x4.tdiv (g : Int), x5.tdiv (g : Int)] iv wr) (fun iv _ => 6 - (intOf iv).toNat)
      case atStart => exact ⟨0, Nat.zero_le _, rfl, fun n h => (by cases h), HR1.out, HR2.out, HR3.out, HB.out⟩
      case round =>
        clear HR1 HR2 HR3 HB
        obtain ⟨i, hi, rfl, hok, hr1, hr2, hr3, hb⟩ := hrel
        have HOK := Lib.hid hok
        have HR1 := Lib.hid hr1
        have HR2 := Lib.hid hr2
        have HR3 := Lib.hid hr3
        have HB := Lib.hid hb
        clear hok hr1 hr2 hr3 hb
        have hB2a : B2 ≠ w.heap.size := by omega
        have hB2b : B2 ≠ w.heap.size + 1 := by omega
        by_cases hil : i < 6
        · obtain ⟨n, hn⟩ : ∃ n, [x0, x1, x2, x3, x4, x5][i]? = some n := ⟨[x0, x1, x2, x3, x4, x5][i], List.getElem?_eq_getElem _⟩
          have hilI : (i : Int) < 6 := by omega
          have hiI : (0 : Int) ≤ (i : Int) := by omega
          have k0 := HR1.out.cell hn
          have hnb := HX.out n (List.mem_of_getElem? hn)
          obtain ⟨y, hy⟩ : ∃ y, n.tdiv (g : Int) = y := ⟨_, rfl⟩
          have hyb : -1000000000 ≤ y ∧ y ≤ 1000000000 := by rw [← hy]; exact tdiv_bound hnb
          have hy2 : IntKind.i64.wrap y = y := IntWalk.i64_in _ (by omega)
          have hqi : [x0.tdiv (g : Int), x1.tdiv (g : Int), x2.tdiv (g : Int), x3.tdiv (g : Int), x4.tdiv (g : Int), x5.tdiv (g : Int)][i]? = some y := by
            have h : [x0.tdiv (g : Int), x1.tdiv (g : Int), x2.tdiv (g : Int), x3.tdiv (g : Int), x4.tdiv (g : Int), x5.tdiv (g : Int)] = [x0, x1, x2, x3, x4, x5].map (·.tdiv (g : Int)) := rfl
            rw [h, map_at hn, hy]
          have HQI := Lib.hid hqi
          clear hn hqi
          by_cases hf : fitB y = true
          · obtain ⟨o, ho⟩ := mixL_at (Z := [x0.tdiv (g : Int), x1.tdiv (g : Int), x2.tdiv (g : Int), x3.tdiv (g : Int), x4.tdiv (g : Int), x5.tdiv (g : Int)]) (O := zero6) (i := i) rfl hil
            have hl6 : (mixL [x0.tdiv (g : Int), x1.tdiv (g : Int), x2.tdiv (g : Int), x3.tdiv (g : Int), x4.tdiv (g : Int), x5.tdiv (g : Int)] zero6 i).length = 6 := by
              unfold mixL
              rw [List.length_append, List.length_take, List.length_drop]
              show min i 6 + (6 - i) = 6
              omega
            have kz := HR3.out.cell (i := i) (x := o) (by rw [List.getElem?_append_left (by omega)]; exact ho)
            have fz := HR3.out.frozen i
            have hset := mixL_set (Z := [x0.tdiv (g : Int), x1.tdiv (g : Int), x2.tdiv (g : Int), x3.tdiv (g : Int), x4.tdiv (g : Int), x5.tdiv (g : Int)]) (O := zero6) rfl HQI.out
            obtain ⟨f1, f2⟩ := fitB_iff.1 hf
            have HF := Lib.hid hf
            have HSET := Lib.hid hset
            have HL6 := Lib.hid hl6
            clear hf ho hset hl6
            go_wp2
            refine ⟨⟨i + 1, by omega, by go_num, ?_, HR1.out.other _ (Ne.symm hB2a), HR2.out.other _ (Ne.symm hB2b), ?_, HB.out.setCell (by show w.heap.size ≤ B2; omega) _⟩, by simp [intOf]; omega⟩
            · intro z hz
              rw [List.take_add_one, HQI.out, List.mem_append] at hz
              rcases hz with h | h
              · exact HOK.out z h
              · simp at h; subst h; exact HF.out
            · have h := HR3.out.set i y
              rw [List.set_append, if_pos (by rw [HL6.out]; exact hil), HSET.out] at h
              exact h
          · have hWE := HW.out
            rw [if_neg (by
              rw [fits_list]
              intro h
              rw [Bool.and_eq_true] at h
              exact hf (List.all_eq_true.1 h.1 y (List.mem_of_getElem? HQI.out)))] at hWE
            have HWE := Lib.hid hWE
            clear hWE HW
            by_cases h1 : y < -100000
            · clear hf
              obtain ⟨c0, c1, c2, c3, c4, c5, c6⟩ := HR2.out.r7
              simp only [Nat.zero_add] at c0 c1 c2 c3 c4 c5 c6
              have f0 := HR2.out.frozen 0
              have f1 := HR2.out.frozen 1
              have f2 := HR2.out.frozen 2
              have f3 := HR2.out.frozen 3
              have f4 := HR2.out.frozen 4
              have f5 := HR2.out.frozen 5
              have f6 := HR2.out.frozen 6
              go_wp2
              change bodyPost _ _ _ _ _ (putR wr (w.heap.size + 1) 0 0 0 0 0 0 0)
              clear c0 c1 c2 c3 c4 c5 c6
              obtain ⟨c0, c1, c2, c3, c4, c5, c6⟩ := (putR_row HR2.out 0 0 0 0 0 0 0).r7
              have hB := putR_below HB.out (show w.heap.size ≤ w.heap.size + 1 by omega) 0 0 0 0 0 0 0
              generalize putR wr (w.heap.size + 1) 0 0 0 0 0 0 0 = W' at *
              simp only [Nat.zero_add] at c0 c1 c2 c3 c4 c5 c6
              refine bodyPost_ret (v := .tuple #[.agg #[.int .i64 0, .int .i64 0, .int .i64 0, .int .i64 0, .int .i64 0, .int .i64 0, .int .i64 0], .int .i64 7]) (by simp [results, Tryd.results50, c0, c1, c2, c3, c4, c5, c6, go_sem]) rfl ⟨?_, hB⟩
              rw [HWE.out]
              rfl
            · have h2 : 100000 < y := by
                rcases Int.lt_or_le 100000 y with h2 | h2
                · exact h2
                · exact absurd (fitB_iff.2 ⟨by omega, h2⟩) hf
              clear hf
              obtain ⟨c0, c1, c2, c3, c4, c5, c6⟩ := HR2.out.r7
              simp only [Nat.zero_add] at c0 c1 c2 c3 c4 c5 c6
              have f0 := HR2.out.frozen 0
              have f1 := HR2.out.frozen 1
              have f2 := HR2.out.frozen 2
              have f3 := HR2.out.frozen 3
              have f4 := HR2.out.frozen 4
              have f5 := HR2.out.frozen 5
              have f6 := HR2.out.frozen 6
              go_wp2
              change bodyPost _ _ _ _ _ (putR wr (w.heap.size + 1) 0 0 0 0 0 0 0)
              clear c0 c1 c2 c3 c4 c5 c6
              obtain ⟨c0, c1, c2, c3, c4, c5, c6⟩ := (putR_row HR2.out 0 0 0 0 0 0 0).r7
              have hB := putR_below HB.out (show w.heap.size ≤ w.heap.size + 1 by omega) 0 0 0 0 0 0 0
              generalize putR wr (w.heap.size + 1) 0 0 0 0 0 0 0 = W' at *
              simp only [Nat.zero_add] at c0 c1 c2 c3 c4 c5 c6
              refine bodyPost_ret (v := .tuple #[.agg #[.int .i64 0, .int .i64 0, .int .i64 0, .int .i64 0, .int .i64 0, .int .i64 0, .int .i64 0], .int .i64 7]) (by simp [results, Tryd.results50, c0, c1, c2, c3, c4, c5, c6, go_sem]) rfl ⟨?_, hB⟩
              rw [HWE.out]
              rfl
        · obtain rfl : i = 6 := by omega
          have hl6 : mixL [x0.tdiv (g : Int), x1.tdiv (g : Int), x2.tdiv (g : Int), x3.tdiv (g : Int), x4.tdiv (g : Int), x5.tdiv (g : Int)] zero6 6 = [x0.tdiv (g : Int), x1.tdiv (g : Int), x2.tdiv (g : Int), x3.tdiv (g : Int), x4.tdiv (g : Int), x5.tdiv (g : Int)] := rfl
          have hr3 := HR3.out
          rw [hl6] at hr3
          have hall : [x0.tdiv (g : Int), x1.tdiv (g : Int), x2.tdiv (g : Int), x3.tdiv (g : Int), x4.tdiv (g : Int), x5.tdiv (g : Int)].all fitB = true := List.all_eq_true.2 fun y hy => HOK.out y (by simpa using hy)
          have hWE := HW.out
          rw [if_pos (by rw [fits_list, hall]; unfold wiB; rw [decide_eq_true (show 1 ≤ (e : Int) by omega), decide_eq_true (show (e : Int) ≤ 1000 by omega)]; rfl)] at hWE
          have HWE := Lib.hid hWE
          clear hWE HW hl6 hall HOK HR3
          generalize x0.tdiv (g : Int) = y0 at *
          generalize x1.tdiv (g : Int) = y1 at *
          generalize x2.tdiv (g : Int) = y2 at *
          generalize x3.tdiv (g : Int) = y3 at *
          generalize x4.tdiv (g : Int) = y4 at *
          generalize x5.tdiv (g : Int) = y5 at *
          have hr4 := hr3.set 6 (e : Int)
          have hr2' := HR2.out.other (k := B2) (i := 6) (.int .i64 (e : Int)) (Ne.symm hB2b)
          have m6 := hr3.cell (i := 6) (x := 0) rfl
          have g6 := hr3.frozen 6
          have hb4 : Below w.heap.size w (wr.setCell ⟨B2, 6, none⟩ (.int .i64 (e : Int))) := HB.out.setCell (by show w.heap.size ≤ B2; omega) _
          have HR4 := Lib.hid (show RowI (wr.setCell ⟨B2, 6, none⟩ (.int .i64 (e : Int))) B2 24 [y0, y1, y2, y3, y4, y5, (e : Int)] from hr4)
          clear HR2 HB hr3 hr4
          have HR2 := Lib.hid hr2'
          have HB := Lib.hid hb4
          clear hr2' hb4
          obtain ⟨n0, n1, n2, n3, n4, n5, n6⟩ := HR4.out.r7
          simp only [Nat.zero_add] at n0 n1 n2 n3 n4 n5 n6
          obtain ⟨c0, c1, c2, c3, c4, c5, c6⟩ := HR2.out.r7
          simp only [Nat.zero_add] at c0 c1 c2 c3 c4 c5 c6
          have f0 := HR2.out.frozen 0
          have f1 := HR2.out.frozen 1
          have f2 := HR2.out.frozen 2
          have f3 := HR2.out.frozen 3
          have f4 := HR2.out.frozen 4
          have f5 := HR2.out.frozen 5
          have f6 := HR2.out.frozen 6
          go_wp2
          change bodyPost _ _ _ _ _ (putR (wr.setCell ⟨B2, 6, none⟩ (.int .i64 (e : Int))) (w.heap.size + 1) y0 y1 y2 y3 y4 y5 (e : Int))
          clear c0 c1 c2 c3 c4 c5 c6
          obtain ⟨c0, c1, c2, c3, c4, c5, c6⟩ := (putR_row HR2.out y0 y1 y2 y3 y4 y5 (e : Int)).r7
          have hB := putR_below HB.out (show w.heap.size ≤ w.heap.size + 1 by omega) y0 y1 y2 y3 y4 y5 (e : Int)
          generalize putR (wr.setCell ⟨B2, 6, none⟩ (.int .i64 (e : Int))) (w.heap.size + 1) y0 y1 y2 y3 y4 y5 (e : Int) = W' at *
          simp only [Nat.zero_add] at c0 c1 c2 c3 c4 c5 c6
          refine bodyPost_ret (v := .tuple #[.agg #[.int .i64 y0, .int .i64 y1, .int .i64 y2, .int .i64 y3, .int .i64 y4, .int .i64 y5, .int .i64 (e : Int)], .int .i64 0]) (by simp [results, Tryd.results50, c0, c1, c2, c3, c4, c5, c6, go_sem]) rfl ⟨?_, hB⟩
          rw [HWE.out]
          rfl
end Go.Proofs.YtmbcejldifobnaaDoor

namespace Go.Proofs.YtmbcejldifobnaaDoor
theorem sts6_of {n n1 n2 n3 n4 n5 n6 a0 a1 a2 a3 a4 a5 : Nat} (h0 : n = n1 * 2 ^ a0) (r0 : n1 % 2 ≠ 0) (h1 : n1 = n2 * 3 ^ a1) (r1 : n2 % 3 ≠ 0) (h2 : n2 = n3 * 5 ^ a2) (r2 : n3 % 5 ≠ 0) (h3 : n3 = n4 * 7 ^ a3) (r3 : n4 % 7 ≠ 0) (h4 : n4 = n5 * 11 ^ a4) (r4 : n5 % 11 ≠ 0) (h5 : n5 = n6 * 13 ^ a5) (r5 : n6 % 13 ≠ 0) :
    sts ps6 n = (n6, [a0, a1, a2, a3, a4, a5]) := by
  have e0 := st_unique (p := 2) (by omega) r0 h0
  have e1 := st_unique (p := 3) (by omega) r1 h1
  have e2 := st_unique (p := 5) (by omega) r2 h2
  have e3 := st_unique (p := 7) (by omega) r3 h3
  have e4 := st_unique (p := 11) (by omega) r4 h4
  have e5 := st_unique (p := 13) (by omega) r5 h5
  unfold ps6
  simp only [sts, e0, e1, e2, e3, e4, e5]
end Go.Proofs.YtmbcejldifobnaaDoor

namespace Go.Proofs.YtmbcejldifobnaaDoor.Tp
open Go.RowKit
set_option maxHeartbeats 1000000 in
theorem cdiv_any (a b M : Int) (w : World) (h1 : -M ≤ a) (h2 : a ≤ M) (h3 : -M ≤ b) (h4 : b ≤ M) (hM : M ≤ 9223372036854775807) :
    Calls Tryd.prog 158 #[.int .i64 a, .int .i64 b] w fun e w' => e = .returned (.int .i64 ((Nat.gcd a.natAbs b.natAbs : Nat) : Int)) ∧ Drawn w w' := by
  obtain ⟨G, hG⟩ : ∃ G, G = Nat.gcd a.natAbs b.natAbs := ⟨_, rfl⟩
  rw [← hG]
  have HG := Lib.hid hG.symm
  clear hG
  go_enter Tryd.func158, Tryd.ntmps158
  go_wp2
  go_loopw [0, 1] (fun va vb wr => GcRel w G M va vb wr) (fun _ vb _ => mAbs vb)
  case atStart => exact ⟨a, b, rfl, rfl, h1, h2, h3, h4, HG.out, Drawn.refl w⟩
  case round =>
    obtain ⟨x, y, rfl, rfl, x1, x2, y1, y2, hg, hdr⟩ := hrel
    have HH := Lib.hid hg
    have HDR := Lib.hid hdr
    clear hg hdr
    by_cases hy : y = 0
    · subst hy
      have hxG : (G : Int) = max x (-x) := by
        have h := HH.out
        rw [Int.natAbs_zero, Nat.gcd_zero_right] at h
        omega
      have HX := Lib.hid hxG
      clear hxG
      go_wp2
      all_goals
        go_ret
        exact ⟨ret_int (by have := HX.out; omega), HDR.out⟩
    · have q1 : (y == 0) = false := beq_false_of_ne hy
      have q2 : (y != 0) = true := by simp [hy]
      have hst := gcd_step x y
      rw [HH.out] at hst
      have hlt : (x.tmod y).natAbs < y.natAbs := by rw [Int.natAbs_tmod]; exact Nat.mod_lt _ (by omega)
      have HST := Lib.hid hst
      have HLT := Lib.hid hlt
      clear hst hlt
      go_wp2
      go_quiet (fail)
      go_wp2
      first
        | exact ⟨⟨y, _, rfl, rfl, y1, y2, by have := HLT.out; omega, by have := HLT.out; omega, HST.out, HDR.out.trans ⟨_, rfl⟩⟩, HLT.out⟩
        | (go_roundw
           case rel => exact ⟨y, _, rfl, rfl, y1, y2, by have := HLT.out; omega, by have := HLT.out; omega, HST.out, HDR.out.trans ⟨_, rfl⟩⟩
           case measure => exact HLT.out)
def R5Rel (w : World) (G M : Nat) (va vb : Value) (wr : World) : Prop := ∃ x y : Nat, va = .int .i64 (x : Int) ∧ vb = .int .i64 (y : Int) ∧ x ≤ M ∧ y ≤ M ∧ Nat.gcd x y = G ∧ Drawn w wr
set_option maxHeartbeats 1000000 in
theorem r5gcd_any (a b : Nat) (w : World) (h1 : a ≤ 9000000000000000000) (h2 : b ≤ 9000000000000000000) :
    Calls Tryd.prog 54 #[.int .i64 (a : Int), .int .i64 (b : Int)] w fun e w' => e = .returned (.int .i64 ((Nat.gcd a b : Nat) : Int)) ∧ Drawn w w' := by
  obtain ⟨G, hG⟩ : ∃ G, G = Nat.gcd a b := ⟨_, rfl⟩
  rw [← hG]
  have HG := Lib.hid hG.symm
  clear hG
  go_enter Tryd.func54, Tryd.ntmps54
  go_wp2
  go_loopw [0, 1] (fun va vb wr => R5Rel w G 9000000000000000000 va vb wr) (fun _ vb _ => mAbs vb)
  case atStart => exact ⟨a, b, rfl, rfl, h1, h2, HG.out, Drawn.refl w⟩
  case round =>
    obtain ⟨x, y, rfl, rfl, x1, y1, hg, hdr⟩ := hrel
    have HH := Lib.hid hg
    have HDR := Lib.hid hdr
    clear hg hdr
    by_cases hy : y = 0
    · subst hy
      have hxG : x = G := by have h := HH.out; rw [Nat.gcd_zero_right] at h; exact h
      have HX := Lib.hid hxG
      clear hxG
      go_wp2
      go_ret
      exact ⟨ret_int (by rw [HX.out]), HDR.out⟩
    · have q0 : ¬ (y : Int) = 0 := by omega
      have q1 : ((y : Int) == 0) = false := beq_false_of_ne q0
      have q2 : ((y : Int) != 0) = true := by simp [hy]
      obtain ⟨r, hr⟩ : ∃ r, r = x % y := ⟨_, rfl⟩
      have hrI : (x : Int) % (y : Int) = (r : Int) := by rw [hr]; exact (Int.natCast_emod x y).symm
      have hst : Nat.gcd y r = G := by rw [← HH.out, hr, Nat.gcd_comm x y, Nat.gcd_rec y x, Nat.gcd_comm]
      have hlt : r < y := by rw [hr]; exact Nat.mod_lt _ (by omega)
      have HST := Lib.hid hst
      clear hst hr
      go_wp2
      go_quiet (fail)
      go_wp2
      first
        | exact ⟨⟨y, r, rfl, by rw [hrI], y1, by omega, HST.out, HDR.out.trans ⟨_, rfl⟩⟩, by rw [hrI]; simp [mAbs]; omega⟩
        | (go_roundw
           case rel => exact ⟨y, r, rfl, by rw [hrI], y1, by omega, HST.out, HDR.out.trans ⟨_, rfl⟩⟩
           case measure => simp [mAbs]; omega)
end Go.Proofs.YtmbcejldifobnaaDoor.Tp

namespace Go.Proofs.YtmbcejldifobnaaDoor
theorem gcd_fold (d a k : Int) : Nat.gcd d.natAbs (a + -(k * d)).natAbs = Nat.gcd d.natAbs a.natAbs := by
  apply Nat.dvd_antisymm
  · refine Nat.dvd_gcd (Nat.gcd_dvd_left _ _) ?_
    have h1 : ((Nat.gcd d.natAbs (a + -(k * d)).natAbs : Nat) : Int) ∣ d := Int.dvd_natAbs.1 (Int.natCast_dvd_natCast.2 (Nat.gcd_dvd_left _ _))
    have h2 : ((Nat.gcd d.natAbs (a + -(k * d)).natAbs : Nat) : Int) ∣ (a + -(k * d)) := Int.dvd_natAbs.1 (Int.natCast_dvd_natCast.2 (Nat.gcd_dvd_right _ _))
    have h3 := Int.dvd_add h2 (Int.dvd_trans h1 (Int.dvd_mul_left k d))
    rw [show a + -(k * d) + k * d = a by omega] at h3
    exact Int.natCast_dvd_natCast.1 (Int.dvd_natAbs.2 h3)
  · refine Nat.dvd_gcd (Nat.gcd_dvd_left _ _) ?_
    have h1 : ((Nat.gcd d.natAbs a.natAbs : Nat) : Int) ∣ d := Int.dvd_natAbs.1 (Int.natCast_dvd_natCast.2 (Nat.gcd_dvd_left _ _))
    have h2 : ((Nat.gcd d.natAbs a.natAbs : Nat) : Int) ∣ a := Int.dvd_natAbs.1 (Int.natCast_dvd_natCast.2 (Nat.gcd_dvd_right _ _))
    have h3 := Int.dvd_add h2 (Int.dvd_neg.2 (Int.dvd_trans h1 (Int.dvd_mul_left k d)))
    exact Int.natCast_dvd_natCast.1 (Int.dvd_natAbs.2 h3)
theorem g_two (v : V6) (d k : Int) : (v.two (-(k * d))).g d = v.g d := by
  unfold V6.g
  show gl [v.b, v.c, v.d, v.e, v.f] (Nat.gcd d.natAbs (v.a + -(k * d)).natAbs) = gl [v.b, v.c, v.d, v.e, v.f] (Nat.gcd d.natAbs v.a.natAbs)
  rw [gcd_fold]
theorem gs_pos {v : V6} {d : Int} (hd : 0 < d) : 0 < v.gs d := by
  have : 0 < v.g d := gl_pos (by omega)
  unfold V6.gs
  rw [if_neg (by omega)]
  omega
end Go.Proofs.YtmbcejldifobnaaDoor

namespace Go.Proofs.YtmbcejldifobnaaDoor
theorem V6.scl_comp {k : Int} {u v : V6} (h : V6.scl k u = v) : k * u.a = v.a ∧ k * u.b = v.b ∧ k * u.c = v.c ∧ k * u.d = v.d ∧ k * u.e = v.e ∧ k * u.f = v.f := by
  subst h; exact ⟨rfl, rfl, rfl, rfl, rfl, rfl⟩
theorem cross_one {d e a b x y u v : Int} (hd : d ≠ 0) (he : e ≠ 0) (h1 : d * x = a * u) (h2 : e * y = b * v) (h : e * u = d * v) : b * x = a * y := by
  have h0 : d * e ≠ 0 := Int.mul_ne_zero hd he
  refine Int.eq_of_mul_eq_mul_left h0 ?_
  calc d * e * (b * x) = e * b * (d * x) := by grind
    _ = e * b * (a * u) := by rw [h1]
    _ = a * b * (e * u) := by grind
    _ = a * b * (d * v) := by rw [h]
    _ = a * d * (b * v) := by grind
    _ = a * d * (e * y) := by rw [h2]
    _ = d * e * (a * y) := by grind
theorem lowR_eq {u v : V6} {d e : Int} (hd : 0 < d) (he : 0 < e) (h : V6.scl e u = V6.scl d v) : lowR u d = lowR v e := by
  have l1 := lowR_val (v := u) (d := d)
  have l2 := lowR_val (v := v) (d := e)
  obtain ⟨g1, p1⟩ := quo_low (v := u) (d := d) (by omega)
  obtain ⟨g2, p2⟩ := quo_low (v := v) (d := e) (by omega)
  have g1' : (lowR u d).v.g (lowR u d).d = 1 := g1
  have g2' : (lowR v e).v.g (lowR v e).d = 1 := g2
  have p1' : 0 < (lowR u d).d := p1
  have p2' : 0 < (lowR v e).d := p2
  clear g1 g2 p1 p2
  generalize lowR u d = X at *
  generalize lowR v e = Y at *
  obtain ⟨a1, a2, a3, a4, a5, a6⟩ := V6.scl_comp l1
  obtain ⟨b1, b2, b3, b4, b5, b6⟩ := V6.scl_comp l2
  obtain ⟨c1, c2, c3, c4, c5, c6⟩ := V6.scl_comp h
  have hd' : d ≠ 0 := by omega
  have he' : e ≠ 0 := by omega
  have hx : V6.scl Y.d X.v = V6.scl X.d Y.v := V6.eq (cross_one hd' he' a1 b1 c1) (cross_one hd' he' a2 b2 c2) (cross_one hd' he' a3 b3 c3) (cross_one hd' he' a4 b4 c4) (cross_one hd' he' a5 b5 c5) (cross_one hd' he' a6 b6 c6)
  obtain ⟨e1, e2⟩ := low_unique p1' p2' g1' g2' hx
  exact Rt.eq e2 e1
/-- Numbers within the bounds of ratios. -/
def V6.bd (v : V6) (M : Int) : Prop := (-M ≤ v.a ∧ v.a ≤ M) ∧ (-M ≤ v.b ∧ v.b ≤ M) ∧ (-M ≤ v.c ∧ v.c ≤ M) ∧ (-M ≤ v.d ∧ v.d ≤ M) ∧ (-M ≤ v.e ∧ v.e ≤ M) ∧ (-M ≤ v.f ∧ v.f ≤ M)
theorem tdiv_bd {x G M : Int} (hx : -M ≤ x ∧ x ≤ M) : -M ≤ x.tdiv G ∧ x.tdiv G ≤ M := by
  have h : (x.tdiv G).natAbs ≤ x.natAbs := by rw [Int.natAbs_tdiv]; exact Nat.div_le_self _ _
  omega
theorem lowR_ok {v : V6} {D : Int} (h1 : 1 ≤ D) (h2 : D ≤ 1000) (h : v.bd 100000) : (lowR v D).Ok := by
  obtain ⟨g, p⟩ := quo_low (v := v) (d := D) (by omega)
  refine ⟨?_, g⟩
  obtain ⟨b1, b2, b3, b4, b5, b6⟩ := h
  have q := (tdiv_bd (G := v.gs D) (x := D) (M := 1000) (by omega)).2
  refine Rt.fits_iff.2 ⟨?_, ?_, q⟩
  · show ∀ n ∈ [v.a.tdiv (v.gs D), v.b.tdiv (v.gs D), v.c.tdiv (v.gs D), v.d.tdiv (v.gs D), v.e.tdiv (v.gs D), v.f.tdiv (v.gs D)], _
    simp only [List.mem_cons, List.not_mem_nil, or_false, forall_eq_or_imp, forall_eq]
    exact ⟨tdiv_bd b1, tdiv_bd b2, tdiv_bd b3, tdiv_bd b4, tdiv_bd b5, tdiv_bd b6⟩
  · show 1 ≤ D.tdiv (v.gs D); omega
theorem lowW_of {v : V6} {D : Int} (h : (lowR v D).Ok) : lowW v D = (lowR v D, 0) := by
  unfold lowW; rw [if_pos h.fit]
/-- Mul and Div of ratios over one denominator. -/
theorem both_low {u v : V6} {D s : Int} (h1 : 1 ≤ D) (h2 : D ≤ 1000) (hu : u.bd 100000) (hv : v.bd 100000) (hw : (u.add (V6.scl s v)).bd 100000) :
    bothW (lowR u D) (lowR v D) s = (lowR (u.add (V6.scl s v)) D, 0) := by
  have ok1 := lowR_ok h1 h2 hu
  have ok2 := lowR_ok h1 h2 hv
  have ok3 := lowR_ok h1 h2 hw
  unfold bothW
  rw [if_pos (Rt.ok_iff.2 ok1), if_pos (Rt.ok_iff.2 ok2)]
  have l1 := lowR_val (v := u) (d := D)
  have l2 := lowR_val (v := v) (d := D)
  have p1 : 0 < (lowR u D).d := (quo_low (v := u) (d := D) (by omega)).2
  have p2 : 0 < (lowR v D).d := (quo_low (v := v) (d := D) (by omega)).2
  rw [← lowW_of ok3]
  have e : lowR (timesW (lowR u D) (lowR v D) s).1 (timesW (lowR u D) (lowR v D) s).2 = lowR (u.add (V6.scl s v)) D := by
    refine lowR_eq (Int.mul_pos p1 p2) (by omega) ?_
    generalize lowR u D = X at *
    generalize lowR v D = Y at *
    obtain ⟨a1, a2, a3, a4, a5, a6⟩ := V6.scl_comp l1
    obtain ⟨b1, b2, b3, b4, b5, b6⟩ := V6.scl_comp l2
    have key : ∀ x y p q : Int, D * x = X.d * p → D * y = Y.d * q → D * (Y.d * x + s * X.d * y) = X.d * Y.d * (p + s * q) := by
      intro x y p q e1 e2
      calc D * (Y.d * x + s * X.d * y) = Y.d * (D * x) + s * X.d * (D * y) := by grind
        _ = Y.d * (X.d * p) + s * X.d * (Y.d * q) := by rw [e1, e2]
        _ = _ := by grind
    exact V6.eq (key _ _ _ _ a1 b1) (key _ _ _ _ a2 b2) (key _ _ _ _ a3 b3) (key _ _ _ _ a4 b4) (key _ _ _ _ a5 b5) (key _ _ _ _ a6 b6)
  unfold lowW
  rw [e]
/-- Pow of a whole ratio, over a denominator. -/
theorem pow_low {c : V6} {n d q D : Int} (hd : 1 ≤ d) (hd2 : d ≤ 1000) (hn : -1000 ≤ n ∧ n ≤ 1000) (hq : 1 ≤ q) (hD : D = d * q) (h2 : D ≤ 1000) (hc : c.bd 100000) (hw : (V6.scl (n * q) c).bd 100000) :
    rpowW (lowR c 1) n d = (lowR (V6.scl (n * q) c) D, 0) := by
  have ok1 := lowR_ok (v := c) (D := 1) (by omega) (by omega) hc
  have hD1 : 1 ≤ D := by rw [hD]; exact Int.mul_pos (by omega) (by omega)
  have ok3 := lowR_ok hD1 h2 hw
  unfold rpowW
  rw [if_pos (Rt.ok_iff.2 ok1), if_pos ⟨hn.1, hn.2, by omega, by omega, by omega⟩, ← lowW_of ok3]
  have l1 := lowR_val (v := c) (d := 1)
  have p1 : 0 < (lowR c 1).d := (quo_low (v := c) (d := 1) (by omega)).2
  have e : lowR (V6.scl n (lowR c 1).v) ((lowR c 1).d * d) = lowR (V6.scl (n * q) c) D := by
    refine lowR_eq (Int.mul_pos p1 (by omega)) (by omega) ?_
    generalize lowR c 1 = X at *
    obtain ⟨a1, a2, a3, a4, a5, a6⟩ := V6.scl_comp l1
    have key : ∀ x p : Int, 1 * x = X.d * p → D * (n * x) = X.d * d * (n * q * p) := by
      intro x p e1
      rw [Int.one_mul] at e1
      subst e1 hD
      grind
    exact V6.eq (key _ _ a1) (key _ _ a2) (key _ _ a3) (key _ _ a4) (key _ _ a5) (key _ _ a6)
  unfold lowW
  rw [e]
theorem low_scl {v : V6} {D k : Int} (hD : 0 < D) (hk : 0 < k) : lowR (V6.scl k v) (k * D) = lowR v D := by
  refine lowR_eq (Int.mul_pos hk hD) hD ?_
  exact V6.eq (by show D * (k * v.a) = k * D * v.a; grind) (by show D * (k * v.b) = k * D * v.b; grind) (by show D * (k * v.c) = k * D * v.c; grind) (by show D * (k * v.d) = k * D * v.d; grind) (by show D * (k * v.e) = k * D * v.e; grind) (by show D * (k * v.f) = k * D * v.f; grind)
/-- The signs do not change by what lowest terms leave out. -/
theorem low_Fl {v : V6} {D : Int} (hD : 0 < D) (s k : Int) : Fl (lowR v D).v s (lowR v D).d k = Fl v s D k := by
  obtain ⟨b1, b2⟩ := quo_back (v := v) (d := D)
  have hp := gs_pos (v := v) hD
  show Sg ((V6.scl s (v.quo (v.gs D))).two (-(k * (D.tdiv (v.gs D))))) = Sg ((V6.scl s v).two (-(k * D)))
  generalize v.quo (v.gs D) = q at *
  generalize D.tdiv (v.gs D) = t at *
  generalize v.gs D = G at *
  rw [← b1, ← b2]
  rw [← Sg_scl G _ hp]
  congr 1
  exact V6.eq (by show G * (s * q.a + -(k * t)) = s * (G * q.a) + -(k * (G * t)); grind) (by show G * (s * q.b) = s * (G * q.b); grind) (by show G * (s * q.c) = s * (G * q.c); grind) (by show G * (s * q.d) = s * (G * q.d); grind) (by show G * (s * q.e) = s * (G * q.e); grind) (by show G * (s * q.f) = s * (G * q.f); grind)
theorem low_FlIs {v : V6} {D : Int} (hD : 0 < D) {s k : Int} : FlIs (lowR v D).v s (lowR v D).d k ↔ FlIs v s D k := by
  unfold FlIs; rw [low_Fl hD, low_Fl hD]
/-- Fold of a ratio over a denominator. -/
theorem low_fold {v : V6} {D : Int} (hD : 0 < D) (k : Int) : (⟨(lowR v D).v.two (-(k * (lowR v D).d)), (lowR v D).d⟩ : Rt) = lowR (v.two (-(k * D))) D := by
  obtain ⟨b1, b2⟩ := quo_back (v := v) (d := D)
  have hp := gs_pos (v := v) hD
  have g1 := (quo_low (v := v) (d := D) (by omega)).1
  have p1 := (quo_low (v := v) (d := D) (by omega)).2
  have l2 := lowR_val (v := v.two (-(k * D))) (d := D)
  obtain ⟨g2, p2⟩ := quo_low (v := v.two (-(k * D))) (d := D) (by omega)
  have hx : V6.scl (lowR (v.two (-(k * D))) D).d ((v.quo (v.gs D)).two (-(k * (D.tdiv (v.gs D))))) = V6.scl (D.tdiv (v.gs D)) (lowR (v.two (-(k * D))) D).v := by
    generalize lowR (v.two (-(k * D))) D = Y at *
    generalize v.quo (v.gs D) = q at *
    generalize D.tdiv (v.gs D) = t at *
    generalize v.gs D = G at *
    obtain ⟨a1, a2, a3, a4, a5, a6⟩ := V6.scl_comp b1
    obtain ⟨c1, c2, c3, c4, c5, c6⟩ := V6.scl_comp l2
    have hG : G ≠ 0 := by omega
    have key : ∀ x y z : Int, G * x = z → D * y = Y.d * z → Y.d * x = t * y := by
      intro x y z e1 e2
      refine Int.eq_of_mul_eq_mul_left hG ?_
      calc G * (Y.d * x) = Y.d * (G * x) := by grind
        _ = Y.d * z := by rw [e1]
        _ = D * y := e2.symm
        _ = G * t * y := by rw [b2]
        _ = _ := by grind
    refine V6.eq (key _ _ _ ?_ c1) (key _ _ _ a2 c2) (key _ _ _ a3 c3) (key _ _ _ a4 c4) (key _ _ _ a5 c5) (key _ _ _ a6 c6)
    show G * (q.a + -(k * t)) = v.a + -(k * D)
    rw [← a1, ← b2]; grind
  obtain ⟨e1, e2⟩ := low_unique (u := (v.quo (v.gs D)).two (-(k * (D.tdiv (v.gs D))))) p1 (show 0 < (lowR (v.two (-(k * D))) D).d from p2) (by rw [g_two]; exact g1) g2 hx
  exact Rt.eq e2 e1
end Go.Proofs.YtmbcejldifobnaaDoor

namespace Go.Proofs.YtmbcejldifobnaaDoor
def octV (x : Int) : V6 := ⟨x, 0, 0, 0, 0, 0⟩
theorem V6.add_neg_two (u v : V6) (x y : Int) : (u.two x).add (v.two y) = (u.add v).two (x + y) := by
  unfold V6.two V6.add; apply V6.eq <;> simp only; grind
theorem V6.two_two (u : V6) (x y : Int) : (u.two x).two y = u.two (x + y) := by
  unfold V6.two; apply V6.eq <;> simp only; grind
theorem V6.two_zero (u : V6) : u.two 0 = u := by unfold V6.two; apply V6.eq <;> simp
theorem V6.scl_one (u : V6) : V6.scl 1 u = u := by unfold V6.scl; apply V6.eq <;> simp
theorem Sg_oct_nn {x : Int} (h : 0 ≤ x) : 0 ≤ Sg (octV x) := by
  unfold Sg
  rw [sgn_ge]
  show 2 ^ (-x).toNat * 1 ≤ 2 ^ x.toNat * 1
  rw [show (-x).toNat = 0 by omega]
  simp [Nat.one_le_two_pow]
theorem Sg_oct_neg {x : Int} (h : 0 < x) : Sg (octV (-x)) < 0 := by
  unfold Sg
  rw [sgn_lt]
  show 2 ^ (-x).toNat * 1 < 2 ^ (- -x).toNat * 1
  rw [show (-x).toNat = 0 by omega, Nat.pow_zero, Nat.one_mul, Nat.mul_one]
  exact Nat.one_lt_two_pow (by omega)
theorem Sg_scl_nn {k : Int} {v : V6} (hk : 0 ≤ k) (h : 0 ≤ Sg v) : 0 ≤ Sg (V6.scl k v) := by
  rcases Int.lt_or_le 0 k with h1 | h1
  · rw [Sg_scl k v h1]; exact h
  · obtain rfl : k = 0 := by omega
    have e : V6.scl 0 v = octV 0 := by unfold V6.scl octV; simp
    rw [e]; exact Sg_oct_nn (Int.le_refl 0)
/-- Between so many octaves. -/
def Bt (D : Int) (v : V6) (a b : Int) : Prop := 0 ≤ Sg (v.two (-(a * D))) ∧ 0 ≤ Sg ((V6.scl (-1) v).two (b * D))
theorem Bt.add {D : Int} {u v : V6} {a b c d : Int} (h : Bt D u a b) (h' : Bt D v c d) : Bt D (u.add v) (a + c) (b + d) := by
  constructor
  · have := Sg_add_ge h.1 h'.1
    rw [V6.add_neg_two] at this
    rw [show -((a + c) * D) = -(a * D) + -(c * D) by grind]
    exact this
  · have := Sg_add_ge h.2 h'.2
    rw [V6.add_neg_two] at this
    rw [show V6.scl (-1) (u.add v) = (V6.scl (-1) u).add (V6.scl (-1) v) by unfold V6.scl V6.add; apply V6.eq <;> simp only <;> grind, show (b + d) * D = b * D + d * D by grind]
    exact this
theorem Bt.neg {D : Int} {v : V6} {a b : Int} (h : Bt D v a b) : Bt D (V6.scl (-1) v) (-b) (-a) := by
  constructor
  · rw [show -(-b * D) = b * D by grind]; exact h.2
  · rw [show V6.scl (-1) (V6.scl (-1) v) = v by unfold V6.scl; apply V6.eq <;> simp only <;> grind, show -a * D = -(a * D) by grind]; exact h.1
theorem Bt.oct (D k : Int) : Bt D (octV (k * D)) k k := by
  have e1 : (octV (k * D)).two (-(k * D)) = octV 0 := by unfold octV V6.two; apply V6.eq <;> simp only; grind
  have e2 : (V6.scl (-1) (octV (k * D))).two (k * D) = octV 0 := by unfold octV V6.two V6.scl; apply V6.eq <;> simp only <;> grind
  constructor
  · rw [e1]; exact Sg_oct_nn (Int.le_refl 0)
  · rw [e2]; exact Sg_oct_nn (Int.le_refl 0)
theorem Bt.fl {D : Int} {v : V6} {a b k : Int} (hD : 0 < D) (h : Bt D v a b) (hk : FlIs v 1 D k) : a ≤ k ∧ k ≤ b := by
  have e : ∀ m, Fl v 1 D m = Sg (v.two (-(m * D))) := fun m => by unfold Fl; rw [V6.scl_one]
  constructor
  · exact hk.le hD (by rw [e]; exact h.1)
  · rcases Int.lt_or_le b k with h1 | h1
    · exfalso
      have h2 := Fl_anti hD (show b + 1 ≤ k by omega) hk.1
      rw [e] at h2
      have h3 := Sg_add_ge h2 h.2
      rw [V6.add_neg_two] at h3
      have e3 : (v.add (V6.scl (-1) v)).two (-((b + 1) * D) + b * D) = octV (-D) := by
        unfold V6.add V6.scl V6.two octV; apply V6.eq <;> simp only <;> grind
      rw [e3] at h3
      have := Sg_oct_neg hD
      omega
    · exact h1
theorem FlIs.bt {D : Int} {v : V6} {k : Int} (h : FlIs v 1 D k) : Bt D v k (k + 1) := by
  have e : ∀ m, Fl v 1 D m = Sg (v.two (-(m * D))) := fun m => by unfold Fl; rw [V6.scl_one]
  constructor
  · have := h.1; rw [e] at this; exact this
  · have h2 := h.2
    rw [e] at h2
    have e2 : (V6.scl (-1) v).two ((k + 1) * D) = V6.scl (-1) (v.two (-((k + 1) * D))) := by unfold V6.two V6.scl; apply V6.eq <;> simp only; grind
    rw [e2, Sg_neg]
    omega
theorem FlIs.shift {D : Int} {v : V6} {j m : Int} : FlIs (v.two (-(j * D))) 1 D m ↔ FlIs v 1 D (j + m) := by
  have e : ∀ m, Fl (v.two (-(j * D))) 1 D m = Fl v 1 D (j + m) := fun m => by
    unfold Fl; rw [V6.scl_one, V6.scl_one, V6.two_two]
    congr 2; grind
  unfold FlIs
  rw [e, e, show j + (m + 1) = j + m + 1 by omega]
theorem Bt.shift {D : Int} {v : V6} {a b k : Int} (h : Bt D v a b) : Bt D (v.two (-(k * D))) (a - k) (b - k) := by
  have h2 := h.add (Bt.oct D (-k))
  have e : v.add (octV (-k * D)) = v.two (-(k * D)) := by unfold V6.add octV V6.two; apply V6.eq <;> simp only <;> grind
  rw [e] at h2
  exact h2
theorem V6.bd.mono {v : V6} {M N : Int} (h : v.bd M) (hl : M ≤ N) : v.bd N := by
  unfold V6.bd at *; omega
theorem V6.bd.add {u v : V6} {M N : Int} (h : u.bd M) (h' : v.bd N) : (u.add v).bd (M + N) := by
  unfold V6.bd V6.add at *; simp only; omega
theorem V6.bd.neg {v : V6} {M : Int} (h : v.bd M) : (V6.scl (-1) v).bd M := by
  unfold V6.bd V6.scl at *; simp only; omega
theorem V6.bd.two {v : V6} {M x N : Int} (h : v.bd M) (h1 : -N ≤ x) (h2 : x ≤ N) : (v.two x).bd (M + N) := by
  unfold V6.bd V6.two at *; simp only; omega
theorem octV_bd {x M : Int} (h1 : -M ≤ x) (h2 : x ≤ M) : (octV x).bd M := by
  unfold V6.bd octV; simp only; omega
def PS (F : Nat → V6) : Nat → V6
  | 0 => octV 0
  | n + 1 => (PS F n).add (F n)
theorem PS_congr {F G : Nat → V6} : ∀ {n : Nat}, (∀ i, i < n → F i = G i) → PS F n = PS G n
  | 0, _ => rfl
  | n + 1, h => by
    show (PS F n).add (F n) = (PS G n).add (G n)
    rw [PS_congr fun i hi => h i (by omega), h n (by omega)]
theorem V6.add_assoc (u v w : V6) : (u.add v).add w = u.add (v.add w) := by unfold V6.add; apply V6.eq <;> simp only <;> grind
theorem V6.add_comm (u v : V6) : u.add v = v.add u := by unfold V6.add; apply V6.eq <;> simp only <;> grind
theorem V6.add_zero (u : V6) : u.add (octV 0) = u := by unfold V6.add octV; apply V6.eq <;> simp
theorem PS_add (F : Nat → V6) (m : Nat) : ∀ n, PS F (m + n) = (PS F m).add (PS (fun j => F (m + j)) n)
  | 0 => by show PS F m = (PS F m).add (octV 0); rw [V6.add_zero]
  | n + 1 => by
    show (PS F (m + n)).add (F (m + n)) = (PS F m).add ((PS (fun j => F (m + j)) n).add (F (m + n)))
    rw [PS_add F m n, V6.add_assoc]
theorem PS_bd {F : Nat → V6} {M : Int} : ∀ {n : Nat}, (∀ i, i < n → (F i).bd M) → (PS F n).bd (n * M)
  | 0, _ => by refine octV_bd ?_ ?_ <;> simp
  | n + 1, h => by
    have h1 := (PS_bd (n := n) fun i hi => h i (by omega)).add (h n (by omega))
    rw [show ((n + 1 : Nat) : Int) * M = n * M + M by push_cast; grind]
    exact h1
theorem PS_bt {F : Nat → V6} {D : Int} : ∀ {n : Nat}, (∀ i, i < n → Bt D (F i) 0 1) → Bt D (PS F n) 0 n
  | 0, _ => by have := Bt.oct D 0; rw [Int.zero_mul] at this; exact this
  | n + 1, h => by
    have h1 := (PS_bt (n := n) fun i hi => h i (by omega)).add (h n (by omega))
    rw [show ((n + 1 : Nat) : Int) = (n : Int) + 1 by omega]
    exact h1
/-- What is left of seven octaves. -/
def LS (D : Int) (F : Nat → V6) (wf : Nat) : Nat → V6
  | 0 => octV (7 * D)
  | n + 1 => if n = wf then LS D F wf n else (LS D F wf n).add (V6.scl (-1) (F n))
theorem LS_low {D : Int} {F : Nat → V6} {wf : Nat} : ∀ {n : Nat}, n ≤ wf → (LS D F wf n).add (PS F n) = octV (7 * D)
  | 0, _ => by show (octV (7 * D)).add (octV 0) = _; rw [V6.add_zero]
  | n + 1, h => by
    have ih := LS_low (D := D) (F := F) (n := n) (wf := wf) (by omega)
    show (LS D F wf (n + 1)).add ((PS F n).add (F n)) = _
    unfold LS
    rw [if_neg (by omega), ← ih]
    unfold V6.add V6.scl; apply V6.eq <;> simp only <;> grind
theorem LS_high {D : Int} {F : Nat → V6} {wf : Nat} : ∀ {n : Nat}, wf < n → (LS D F wf n).add ((PS F n).add (V6.scl (-1) (F wf))) = octV (7 * D)
  | 0, h => by omega
  | n + 1, h => by
    rcases Nat.lt_or_ge wf n with h1 | h1
    · have ih := LS_high (D := D) (F := F) (n := n) (wf := wf) h1
      show (LS D F wf (n + 1)).add (((PS F n).add (F n)).add (V6.scl (-1) (F wf))) = _
      unfold LS
      rw [if_neg (by omega), ← ih]
      unfold V6.add V6.scl; apply V6.eq <;> simp only <;> grind
    · obtain rfl : n = wf := by omega
      have ih := LS_low (D := D) (F := F) (n := n) (wf := n) (Nat.le_refl n)
      show (LS D F n (n + 1)).add (((PS F n).add (F n)).add (V6.scl (-1) (F n))) = _
      unfold LS
      rw [if_pos rfl, ← ih]
      unfold V6.add V6.scl; apply V6.eq <;> simp only <;> grind
/-- The sizes of the fifths. -/
def FF (D : Int) (F : Nat → V6) (wf : Nat) (i : Nat) : V6 := if i = wf then LS D F wf 12 else F i
theorem FF_wf {D : Int} {F : Nat → V6} {wf : Nat} : FF D F wf wf = LS D F wf 12 := if_pos rfl
theorem FF_ne {D : Int} {F : Nat → V6} {wf i : Nat} (h : i ≠ wf) : FF D F wf i = F i := if_neg h
theorem LS_congr {D : Int} {F G : Nat → V6} {wf : Nat} : ∀ {n : Nat}, (∀ i, i < n → i ≠ wf → F i = G i) → LS D F wf n = LS D G wf n
  | 0, _ => rfl
  | n + 1, h => by
    have ih := LS_congr (D := D) (F := F) (G := G) (wf := wf) (n := n) fun i hi hn => h i (by omega) hn
    unfold LS
    by_cases hn : n = wf
    · rw [if_pos hn, if_pos hn]; exact ih
    · rw [if_neg hn, if_neg hn, ih, h n (by omega) hn]
/-- All twelve are seven octaves. -/
theorem FF_sum {D : Int} {F : Nat → V6} {wf : Nat} (hw : wf < 12) : PS (FF D F wf) 12 = octV (7 * D) := by
  have e : LS D (FF D F wf) wf 12 = LS D F wf 12 := LS_congr fun i _ hn => FF_ne hn
  have h := LS_high (D := D) (F := FF D F wf) (n := 12) hw
  rw [e, FF_wf] at h
  rw [← h]
  unfold V6.add V6.scl; apply V6.eq <;> simp only <;> grind
theorem FF_tail {D : Int} {F : Nat → V6} {wf i : Nat} (hw : wf < 12) (hi : i ≤ 12) : PS (FF D F wf) i = (octV (7 * D)).add (V6.scl (-1) (PS (fun j => FF D F wf (i + j)) (12 - i))) := by
  have h := PS_add (FF D F wf) i (12 - i)
  rw [show i + (12 - i) = 12 by omega, FF_sum hw] at h
  rw [h]
  unfold V6.add V6.scl; apply V6.eq <;> simp only <;> grind
structure Circ (D : Int) (F : Nat → V6) (wf : Nat) : Prop where
  d1 : 1 ≤ D
  d2 : D ≤ 120
  w : wf < 12
  bd : ∀ i, i < 12 → (F i).bd 4680
  bt : ∀ i, i < 12 → Bt D (F i) 0 1
theorem Circ.sum_bd {D : Int} {F : Nat → V6} {wf i : Nat} (h : Circ D F wf) (hi : i ≤ 12) : (PS (FF D F wf) i).bd 57000 := by
  rcases Nat.lt_or_ge wf i with h1 | h1
  · rw [FF_tail h.w hi]
    have hb : (PS (fun j => FF D F wf (i + j)) (12 - i)).bd ((12 - i : Nat) * 4680) := PS_bd fun j hj => by
      show (FF D F wf (i + j)).bd 4680
      rw [FF_ne (by omega)]; exact h.bd _ (by omega)
    have hd1 := h.d1
    have hd2 := h.d2
    refine ((octV_bd (x := 7 * D) (M := 840) (by omega) (by omega)).add hb.neg).mono ?_
    omega
  · have hb : (PS (FF D F wf) i).bd (i * 4680) := PS_bd fun j hj => by
      rw [FF_ne (by omega)]; exact h.bd _ (by omega)
    exact hb.mono (by omega)
theorem Circ.sum_bt {D : Int} {F : Nat → V6} {wf i : Nat} (h : Circ D F wf) (hi : i ≤ 12) : Bt D (PS (FF D F wf) i) (-5) 12 ∨ Bt D (PS (FF D F wf) i) 0 i ∨ Bt D (PS (FF D F wf) i) (7 - (12 - i : Nat)) 7 := by
  rcases Nat.lt_or_ge wf i with h1 | h1
  · refine .inr (.inr ?_)
    rw [FF_tail h.w hi]
    have hb : Bt D (PS (fun j => FF D F wf (i + j)) (12 - i)) 0 (12 - i : Nat) := PS_bt fun j hj => by
      show Bt D (FF D F wf (i + j)) 0 1
      rw [FF_ne (by omega)]; exact h.bt _ (by omega)
    have := (Bt.oct D 7).add hb.neg
    rw [Int.neg_zero, Int.add_zero] at this
    exact this
  · refine .inr (.inl ?_)
    exact PS_bt fun j hj => by
      rw [FF_ne (by omega)]; exact h.bt _ (by omega)
theorem Circ.sum_k {D : Int} {F : Nat → V6} {wf i : Nat} {k : Int} (h : Circ D F wf) (hi : i ≤ 12) (hk : FlIs (PS (FF D F wf) i) 1 D k) : -12 ≤ k ∧ k ≤ 12 := by
  have hd1 := h.d1
  rcases h.sum_bt hi with h1 | h1 | h1
  · have := h1.fl (by omega) hk; omega
  · have := h1.fl (by omega) hk; omega
  · have := h1.fl (by omega) hk; omega
theorem LS_bd {D : Int} {F : Nat → V6} {wf : Nat} (h : ∀ i, i < 12 → (F i).bd 4680) (hD : 0 ≤ D ∧ D ≤ 120) : ∀ {n : Nat}, n ≤ 12 → (LS D F wf n).bd (840 + n * 4680)
  | 0, _ => octV_bd (by omega) (by omega)
  | n + 1, hn => by
    have ih := LS_bd (F := F) (wf := wf) h hD (n := n) (by omega)
    unfold LS
    split
    · exact ih.mono (by omega)
    · exact (ih.add (h n (by omega)).neg).mono (by omega)
theorem Circ.ls_bd {D : Int} {F : Nat → V6} {wf n : Nat} (h : Circ D F wf) (hn : n ≤ 12) : (LS D F wf n).bd 57000 :=
  (LS_bd h.bd ⟨by have := h.d1; omega, h.d2⟩ hn).mono (by omega)
theorem Circ.ff_bd {D : Int} {F : Nat → V6} {wf i : Nat} (h : Circ D F wf) (hi : i < 12) : (FF D F wf i).bd 57000 := by
  unfold FF
  split
  · exact h.ls_bd (Nat.le_refl 12)
  · exact (h.bd i hi).mono (by omega)
/-- A note: the sum of fifths, less octaves. -/
def NoteIs (D : Int) (F : Nat → V6) (wf i : Nat) (r : Rt) : Prop := ∃ k, FlIs (PS (FF D F wf) i) 1 D k ∧ r = lowR ((PS (FF D F wf) i).two (-(k * D))) D
theorem mulD_bd {k D : Int} (h1 : 1 ≤ D) (h2 : D ≤ 120) {K : Int} (hk1 : -K ≤ k) (hk2 : k ≤ K) : -(K * 120) ≤ k * D ∧ k * D ≤ K * 120 := by
  have hK : 0 ≤ K := by omega
  constructor
  · have h3 : -K * D ≤ k * D := Int.mul_le_mul_of_nonneg_right hk1 (by omega)
    have h4 : K * D ≤ K * 120 := Int.mul_le_mul_of_nonneg_left h2 hK
    have h5 : -K * D = -(K * D) := Int.neg_mul _ _
    omega
  · have h3 : k * D ≤ K * D := Int.mul_le_mul_of_nonneg_right hk2 (by omega)
    have h4 : K * D ≤ K * 120 := Int.mul_le_mul_of_nonneg_left h2 hK
    omega
theorem Circ.note_bd {D : Int} {F : Nat → V6} {wf i j : Nat} {k : Int} (h : Circ D F wf) (hi : i ≤ 12) (hj : j ≤ 12) (hk : FlIs (PS (FF D F wf) j) 1 D k) : ((PS (FF D F wf) i).two (-(k * D))).bd 60000 := by
  have h1 := h.sum_k hj hk
  have h2 := mulD_bd h.d1 h.d2 h1.1 h1.2
  exact ((h.sum_bd hi).two (N := 1440) (by omega) (by omega)).mono (by omega)
/-- The first note. -/
theorem Circ.note_zero {D : Int} {F : Nat → V6} {wf : Nat} (h : Circ D F wf) : NoteIs D F wf 0 (lowR (octV 0) D) := by
  refine ⟨0, ?_, ?_⟩
  · constructor
    · show 0 ≤ Sg ((V6.scl 1 (octV 0)).two (-(0 * D)))
      rw [V6.scl_one, Int.zero_mul]; exact Sg_oct_nn (Int.le_refl 0)
    · show Sg ((V6.scl 1 (octV 0)).two (-((0 + 1) * D))) < 0
      rw [V6.scl_one]
      have e : (octV 0).two (-((0 + 1) * D)) = octV (-D) := by unfold octV V6.two; simp
      rw [e]; exact Sg_oct_neg (by have := h.d1; omega)
  · rw [Int.zero_mul, Int.neg_zero, V6.two_zero]; rfl
/-- One fifth higher. -/
theorem Circ.note_mul {D : Int} {F : Nat → V6} {wf i : Nat} {r : Rt} (h : Circ D F wf) (hi : i < 12) (hn : NoteIs D F wf i r) :
    ∃ k, FlIs (PS (FF D F wf) i) 1 D k ∧ bothW r (lowR (FF D F wf i) D) 1 = (lowR ((PS (FF D F wf) (i + 1)).two (-(k * D))) D, 0) := by
  obtain ⟨k, hk, rfl⟩ := hn
  refine ⟨k, hk, ?_⟩
  have e : ((PS (FF D F wf) i).two (-(k * D))).add (V6.scl 1 (FF D F wf i)) = (PS (FF D F wf) (i + 1)).two (-(k * D)) := by
    rw [V6.scl_one]
    show _ = ((PS (FF D F wf) i).add (FF D F wf i)).two (-(k * D))
    unfold V6.two V6.add; apply V6.eq <;> simp only; grind
  rw [← e]
  refine both_low h.d1 (by have := h.d2; omega) ((h.note_bd (by omega) (by omega) hk).mono (by omega)) ((h.ff_bd hi).mono (by omega)) ?_
  rw [e]
  exact (h.note_bd (by omega) (by omega) hk).mono (by omega)
end Go.Proofs.YtmbcejldifobnaaDoor
