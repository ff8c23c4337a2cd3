import Derived.Test.YtkoghdgfllichaaDoorKCB
namespace Go.Proofs.YtkoghdgfllichaaDoor
open Go.RowKit

theorem sts_snoc (p : Nat) : ∀ (ps : List Nat) (n : Nat), sts (ps ++ [p]) n = ((st p (sts ps n).1).1, (sts ps n).2 ++ [(st p (sts ps n).1).2])
  | [], _ => rfl
  | q :: ps, n => by
    show ((sts (ps ++ [p]) (st q n).1).1, (st q n).2 :: (sts (ps ++ [p]) (st q n).1).2) = _
    rw [sts_snoc p ps]
    rfl
theorem ps6_prime : ∀ p ∈ ps6, primeN p := by
  intro p hp
  simp only [ps6, List.mem_cons, List.not_mem_nil, or_false] at hp
  rcases hp with rfl | rfl | rfl | rfl | rfl | rfl
  · exact prime2
  · exact prime3
  · exact prime5
  · exact prime7
  · exact prime11
  · exact prime13
theorem sts_le : ∀ (ps : List Nat), (∀ p ∈ ps, primeN p) → ∀ n : Nat, n ≠ 0 → (sts ps n).1 ≤ n
  | [], _, n, _ => Nat.le_refl n
  | p :: r, h, n, hn => by
    have hp := h p (by simp)
    have h1 := st_le hp.1 hn
    have h2 := sts_le r (fun q hq => h q (by simp [hq])) (st p n).1 (st_pos hp.1 hn)
    show (sts r (st p n).1).1 ≤ n
    omega
def ofZ (num den : Nat) : List Int := List.zipWith (fun x y : Nat => (x : Int) - (y : Int)) (sts ps6 num).2 (sts ps6 den).2
theorem ofZ_len (num den : Nat) : (ofZ num den).length = 6 := by
  unfold ofZ
  rw [List.length_zipWith, sts_len, sts_len]; rfl
theorem sts_at {n i p : Nat} (hp : ps6[i]? = some p) : (sts ps6 n).2[i]? = some (st p (sts (ps6.take i) n).1).2 := by
  have hi := (List.getElem?_eq_some_iff.1 hp).1
  have h : ∀ (ps : List Nat) (n i p : Nat), ps[i]? = some p → (sts ps n).2[i]? = some (st p (sts (ps.take i) n).1).2 := by
    intro ps
    induction ps with
    | nil => intro n i p h; simp at h
    | cons q ps ih =>
      intro n i p h
      cases i with
      | zero => simp at h; subst h; rfl
      | succ i => exact ih (st q n).1 i p (by simpa using h)
  exact h _ _ _ _ hp
theorem ofZ_at {num den i p : Nat} (hp : ps6[i]? = some p) : (ofZ num den)[i]? = some (((st p (sts (ps6.take i) num).1).2 : Int) - ((st p (sts (ps6.take i) den).1).2 : Int)) := by
  unfold ofZ
  rw [List.getElem?_zipWith, sts_at hp, sts_at hp]
def V6.ofL (l : List Int) : V6 := ⟨l.getD 0 0, l.getD 1 0, l.getD 2 0, l.getD 3 0, l.getD 4 0, l.getD 5 0⟩
theorem ofL_l {l : List Int} (h : l.length = 6) : (V6.ofL l).l = l := by
  match l, h with
  | [a, b, c, d, e, f], _ => rfl
/-- What Of returns. -/
def ofW (num den : Int) : Rt × Int := if 1 ≤ num ∧ num ≤ 1000000000000 ∧ 1 ≤ den ∧ den ≤ 1000000000000 then (if (sts ps6 num.toNat).1 = (sts ps6 den.toNat).1 then (⟨V6.ofL (ofZ num.toNat den.toNat), 1⟩, 0) else (Rt.zero, 7)) else (Rt.zero, 2)
theorem idx6p (i : Nat) (p : Int) (h : psI[i]? = some p) (w : World) :
    (Instr.index 80 (.agg #[.int .i64 2, .int .i64 3, .int .i64 5, .int .i64 7, .int .i64 11, .int .i64 13]) (.int .i64 (i : Int))).run Tryd.prog w = .ok (.int .i64 p) w := by
  match i, h with
  | 0, h => cases h; simp [Instr.index, run_underlying Tryd.underlying80, asIntOf, go_sem]
  | 1, h => cases h; simp [Instr.index, run_underlying Tryd.underlying80, asIntOf, go_sem]
  | 2, h => cases h; simp [Instr.index, run_underlying Tryd.underlying80, asIntOf, go_sem]
  | 3, h => cases h; simp [Instr.index, run_underlying Tryd.underlying80, asIntOf, go_sem]
  | 4, h => cases h; simp [Instr.index, run_underlying Tryd.underlying80, asIntOf, go_sem]
  | 5, h => cases h; simp [Instr.index, run_underlying Tryd.underlying80, asIntOf, go_sem]
def OfRel (w : World) (num den : Nat) (nv dv iv : Value) (wr : World) : Prop :=
  ∃ i : Nat, i ≤ 6 ∧ iv = .int .i64 (i : Int) ∧ nv = .int .i64 (((sts (ps6.take i) num).1 : Nat) : Int) ∧ dv = .int .i64 (((sts (ps6.take i) den).1 : Nat) : Int) ∧
    RowI wr w.heap.size 24 [0, 0, 0, 0, 0, 0, 0] ∧ RowI wr (w.heap.size + 1) 24 (mixL (ofZ num den) zero6 i ++ [1]) ∧ Below w.heap.size w wr
set_option maxRecDepth 100000 in
set_option maxHeartbeats 1000000 in
theorem Of_bad (num den : Int) (w : World) (h : ¬ (1 ≤ num ∧ num ≤ 1000000000000 ∧ 1 ≤ den ∧ den ≤ 1000000000000)) :
    Calls Tryd.prog 83 #[.int .i64 num, .int .i64 den] w (RtPost w (ofW num den)) := by
  have hW : ofW num den = (Rt.zero, 2) := by unfold ofW; rw [if_neg h]
  rw [hW]
  have hr := RowI.of_alloc w 24 [0, 0, 0, 0, 0, 0, 0]
  have hb := belA w (.cells #[.int .i64 0, .int .i64 0, .int .i64 0, .int .i64 0, .int .i64 0, .int .i64 0, .int .i64 0] 24)
  by_cases hn : wiB num 1 1000000000000 = true
  · have hd : wiB den 1 1000000000000 = false := by
      rw [Bool.eq_false_iff]
      intro hd
      unfold wiB at hn hd
      simp only [Bool.and_eq_true, decide_eq_true_eq] at hn hd
      omega
    have HN := Lib.hid hn
    have HD := Lib.hid hd
    have HR := Lib.hid hr
    have HB := Lib.hid hb
    clear hn hd h hW hr hb
    go_enter Tryd.func83, Tryd.ntmps83
    go_wp2_with fail
    refine (within_any num 1 1000000000000 _).mono ?_
    rintro e w2 ⟨he, hw2⟩
    subst he
    subst hw2
    rw [HN.out]
    go_wp2_with fail
    refine (within_any den 1 1000000000000 _).mono ?_
    rintro e w2 ⟨he, hw2⟩
    subst he
    subst hw2
    rw [HD.out]
    go_wp2
    exact bodyPost_ret (v := .tuple #[.agg #[.int .i64 0, .int .i64 0, .int .i64 0, .int .i64 0, .int .i64 0, .int .i64 0, .int .i64 0], .int .i64 2]) (by simp [results, Tryd.results83, go_sem]) rfl ⟨rfl, HB.out⟩
  · have hn : wiB num 1 1000000000000 = false := by simpa using hn
    have HN := Lib.hid hn
    have HR := Lib.hid hr
    have HB := Lib.hid hb
    clear hn h hW hr hb
    go_enter Tryd.func83, Tryd.ntmps83
    go_wp2_with fail
    refine (within_any num 1 1000000000000 _).mono ?_
    rintro e w2 ⟨he, hw2⟩
    subst he
    subst hw2
    rw [HN.out]
    go_wp2
    exact bodyPost_ret (v := .tuple #[.agg #[.int .i64 0, .int .i64 0, .int .i64 0, .int .i64 0, .int .i64 0, .int .i64 0, .int .i64 0], .int .i64 2]) (by simp [results, Tryd.results83, go_sem]) rfl ⟨rfl, HB.out⟩
set_option maxRecDepth 100000 in
set_option maxHeartbeats 1000000 in
theorem Of_good (num den : Nat) (w : World) (hp : PrL w) (h1 : 1 ≤ num) (h2 : num ≤ 1000000000000) (h3 : 1 ≤ den) (h4 : den ≤ 1000000000000) :
    Calls Tryd.prog 83 #[.int .i64 (num : Int), .int .i64 (den : Int)] w (RtPost w (ofW num den)) := by
  have hW : ofW num den = if (sts ps6 num).1 = (sts ps6 den).1 then (⟨V6.ofL (ofZ num den), 1⟩, 0) else (Rt.zero, 7) := by
    unfold ofW
    rw [if_pos (by omega), Int.toNat_natCast, Int.toNat_natCast]
  generalize ofW num den = RW at *
  have HW := Lib.hid hW
  have HP := Lib.hid hp
  have HN := Lib.hid (show wiB num 1 1000000000000 = true by unfold wiB; rw [decide_eq_true (by omega), decide_eq_true (by omega)]; rfl)
  have HD := Lib.hid (show wiB den 1 1000000000000 = true by unfold wiB; rw [decide_eq_true (by omega), decide_eq_true (by omega)]; rfl)
  clear hW hp
  have hr1 := (RowI.of_alloc w 24 [0, 0, 0, 0, 0, 0, 0]).alloc (.cells #[.int .i64 0, .int .i64 0, .int .i64 0, .int .i64 0, .int .i64 0, .int .i64 0, .int .i64 1] 24)
  have hr2 := RowI.of_alloc (w.alloc (.cells #[.int .i64 0, .int .i64 0, .int .i64 0, .int .i64 0, .int .i64 0, .int .i64 0, .int .i64 0] 24)) 24 (mixL (ofZ num den) zero6 0 ++ [1])
  rw [World.size_alloc] at hr2
  have hb := (belA w (.cells #[.int .i64 0, .int .i64 0, .int .i64 0, .int .i64 0, .int .i64 0, .int .i64 0, .int .i64 0] 24)).alloc (by simp) (.cells #[.int .i64 0, .int .i64 0, .int .i64 0, .int .i64 0, .int .i64 0, .int .i64 0, .int .i64 1] 24)
  have HR1 := Lib.hid hr1
  have HR2 := Lib.hid hr2
  have HB := Lib.hid hb
  have q0 := (HP.out.below hb).cell 0 _ rfl
  have q1 := (HP.out.below hb).cell 1 _ rfl
  have q2 := (HP.out.below hb).cell 2 _ rfl
  have q3 := (HP.out.below hb).cell 3 _ rfl
  have q4 := (HP.out.below hb).cell 4 _ rfl
  have q5 := (HP.out.below hb).cell 5 _ rfl
  clear hr1 hr2 hb
  go_enter Tryd.func83, Tryd.ntmps83
  go_wp2_with fail
  refine (within_any (num : Int) 1 1000000000000 _).mono ?_
  rintro e w2 ⟨he, hw2⟩
  subst he
  subst hw2
  rw [HN.out]
  go_wp2_with fail
  refine (within_any (den : Int) 1 1000000000000 _).mono ?_
  rintro e w2 ⟨he, hw2⟩
  subst he
  subst hw2
  rw [HD.out]
  go_wp2
  have hr1 : RowI ((w.alloc (.cells #[.int .i64 0, .int .i64 0, .int .i64 0, .int .i64 0, .int .i64 0, .int .i64 0, .int .i64 0] 24)).alloc (.cells #[.int .i64 0, .int .i64 0, .int .i64 0, .int .i64 0, .int .i64 0, .int .i64 0, .int .i64 1] 24)) w.heap.size 24 [0, 0, 0, 0, 0, 0, 0] := HR1.out
  have hr2 : RowI ((w.alloc (.cells #[.int .i64 0, .int .i64 0, .int .i64 0, .int .i64 0, .int .i64 0, .int .i64 0, .int .i64 0] 24)).alloc (.cells #[.int .i64 0, .int .i64 0, .int .i64 0, .int .i64 0, .int .i64 0, .int .i64 0, .int .i64 1] 24)) (w.heap.size + 1) 24 (mixL (ofZ num den) zero6 0 ++ [1]) := HR2.out
  have hb : Below w.heap.size w ((w.alloc (.cells #[.int .i64 0, .int .i64 0, .int .i64 0, .int .i64 0, .int .i64 0, .int .i64 0, .int .i64 0] 24)).alloc (.cells #[.int .i64 0, .int .i64 0, .int .i64 0, .int .i64 0, .int .i64 0, .int .i64 0, .int .i64 1] 24)) := HB.out
  clear q0 q1 q2 q3 q4 q5 HR1 HR2 HB
  generalize ((w.alloc (.cells #[.int .i64 0, .int .i64 0, .int .i64 0, .int .i64 0, .int .i64 0, .int .i64 0, .int .i64 0] 24)).alloc (.cells #[.int .i64 0, .int .i64 0, .int .i64 0, .int .i64 0, .int .i64 0, .int .i64 0, .int .i64 1] 24)) = W0 at *
  have HR1 := Lib.hid hr1
  have HR2 := Lib.hid hr2
  have HB := Lib.hid hb
  clear hr1 hr2 hb HN HD HP
  go_loopw [0, 1, 22] (fun nv dv iv wr => OfRel w num den nv dv iv wr) (fun _ _ iv _ => 6 - (intOf iv).toNat)
  case atStart => exact ⟨0, Nat.zero_le _, rfl, rfl, rfl, HR1.out, HR2.out, HB.out⟩
  case round =>
    clear HR1 HR2 HB
    obtain ⟨i, hi, rfl, rfl, rfl, hr1, hr2, hb⟩ := hrel
    have HR1 := Lib.hid hr1
    have HR2 := Lib.hid hr2
    have HB := Lib.hid hb
    clear hr1 hr2 hb
    have hpt : ∀ p ∈ ps6.take i, primeN p := fun p hp => ps6_prime p (List.mem_of_mem_take hp)
    have an1 := sts_le _ hpt num (by omega)
    have an2 := sts_pos _ hpt num (by omega)
    have ad1 := sts_le _ hpt den (by omega)
    have ad2 := sts_pos _ hpt den (by omega)
    by_cases hil : i < 6
    · have hilI : (i : Int) < 6 := by omega
      have hiI : (0 : Int) ≤ (i : Int) := by omega
      obtain ⟨p, hpi⟩ : ∃ p, psI[i]? = some p := ⟨psI[i]'(by simpa [psI] using hil), List.getElem?_eq_getElem _⟩
      have hix := idx6p i p hpi
      obtain ⟨q, rfl, hq, hq2, hq3⟩ := psI_nat i p hpi
      have htn := sts_snoc q (ps6.take i) num
      have htd := sts_snoc q (ps6.take i) den
      have htk : ps6.take (i + 1) = ps6.take i ++ [q] := by rw [List.take_add_one, hq]; rfl
      rw [← htk] at htn htd
      have hz := ofZ_at (num := num) (den := den) hq
      have hset := mixL_set (Z := ofZ num den) (O := zero6) (ofZ_len num den) hz
      obtain ⟨o, ho⟩ := mixL_at (Z := ofZ num den) (O := zero6) (i := i) (ofZ_len num den) hil
      have hl6 : (mixL (ofZ num den) zero6 i).length = 6 := by
        have := ofZ_len num den
        unfold mixL
        rw [List.length_append, List.length_take, List.length_drop, this]
        show min i 6 + (6 - i) = 6
        omega
      generalize (sts (ps6.take i) num).1 = a at *
      generalize (sts (ps6.take i) den).1 = b at *
      have sa := st_le (p := q) hq2 an2
      have sb := st_le (p := q) hq2 ad2
      have ta := fun W => takeOut_any a q W (by omega) (by omega) hq2 hq3
      have tb := fun W => takeOut_any b q W (by omega) (by omega) hq2 hq3
      have pa := st_pos (p := q) hq2 an2
      have pb := st_pos (p := q) hq2 ad2
      have hza : (sts (ps6.take (i + 1)) num).1 = (st q a).1 := congrArg Prod.fst htn
      have hzb : (sts (ps6.take (i + 1)) den).1 = (st q b).1 := congrArg Prod.fst htd
      generalize (st q a).1 = ar at *
      generalize (st q a).2 = at_ at *
      generalize (st q b).1 = br at *
      generalize (st q b).2 = bt at *
      obtain ⟨D, hD⟩ : ∃ D : Int, (at_ : Int) - (bt : Int) = D := ⟨_, rfl⟩
      rw [hD] at hset
      have kz := HR2.out.cell (i := i) (x := o) (by rw [List.getElem?_append_left (by omega)]; exact ho)
      have fz := HR2.out.frozen i
      have HTA := Lib.hid ta
      have HTB := Lib.hid tb
      have HZA := Lib.hid hza
      have HZB := Lib.hid hzb
      have HSET := Lib.hid hset
      have HL6 := Lib.hid hl6
      clear hpi hq htn htd htk hz hset ho ta tb hza hzb hl6 an2 ad2 hpt
      go_wp2_with fail
      refine (HTA.out _).mono ?_
      rintro e w2 ⟨he, hw2⟩
      subst he
      subst hw2
      go_wp2_with fail
      refine (HTB.out _).mono ?_
      rintro e w2 ⟨he, hw2⟩
      subst he
      subst hw2
      go_wp2
      refine ⟨⟨i + 1, by omega, by go_num, by rw [HZA.out], by rw [HZB.out], HR1.out.other _ (by omega), ?_, HB.out.setCell (by show w.heap.size ≤ w.heap.size + 1; omega) _⟩, by simp [intOf]; omega⟩
      have h := HR2.out.set i D
      rw [List.set_append, if_pos (by rw [HL6.out]; exact hil), HSET.out] at h
      exact h
    · obtain rfl : i = 6 := by omega
      have htk : ps6.take 6 = ps6 := rfl
      rw [htk] at an1 an2 ad1 ad2 ⊢
      have hm : mixL (ofZ num den) zero6 6 = ofZ num den := by
        unfold mixL
        rw [List.take_of_length_le (by rw [ofZ_len]; omega), List.drop_of_length_le (by show 6 ≤ 6; omega), List.append_nil]
      have hr2 := HR2.out
      rw [hm] at hr2
      have hWE := HW.out
      have hl := ofZ_len num den
      clear hm HR2 HW htk
      generalize ofZ num den = Z at *
      match Z, hl with
      | [z0, z1, z2, z3, z4, z5], _ =>
      generalize (sts ps6 num).1 = a at *
      generalize (sts ps6 den).1 = b at *
      have HWE := Lib.hid hWE
      clear hWE
      obtain ⟨c0, c1, c2, c3, c4, c5, c6⟩ := HR1.out.r7
      simp only [Nat.zero_add] at c0 c1 c2 c3 c4 c5 c6
      have f0 := HR1.out.frozen 0
      have f1 := HR1.out.frozen 1
      have f2 := HR1.out.frozen 2
      have f3 := HR1.out.frozen 3
      have f4 := HR1.out.frozen 4
      have f5 := HR1.out.frozen 5
      have f6 := HR1.out.frozen 6
      obtain ⟨d0, d1, d2, d3, d4, d5, d6⟩ := RowI.r7 (x0 := z0) (x1 := z1) (x2 := z2) (x3 := z3) (x4 := z4) (x5 := z5) (d := 1) hr2
      simp only [Nat.zero_add] at d0 d1 d2 d3 d4 d5 d6
      clear hr2
      by_cases hab : a = b
      · subst hab
        have hWE := HWE.out
        rw [if_pos rfl] at hWE
        have HWF := Lib.hid hWE
        clear hWE HWE
        go_wp2
        change bodyPost _ _ _ _ _ (putR wr w.heap.size z0 z1 z2 z3 z4 z5 1)
        clear c0 c1 c2 c3 c4 c5 c6
        obtain ⟨c0, c1, c2, c3, c4, c5, c6⟩ := (putR_row HR1.out z0 z1 z2 z3 z4 z5 1).r7
        have hB := putR_below HB.out (Nat.le_refl w.heap.size) z0 z1 z2 z3 z4 z5 1
        generalize putR wr w.heap.size z0 z1 z2 z3 z4 z5 1 = W' at *
        simp only [Nat.zero_add] at c0 c1 c2 c3 c4 c5 c6
        refine bodyPost_ret (v := .tuple #[.agg #[.int .i64 z0, .int .i64 z1, .int .i64 z2, .int .i64 z3, .int .i64 z4, .int .i64 z5, .int .i64 1], .int .i64 0]) (by simp [results, Tryd.results83, c0, c1, c2, c3, c4, c5, c6, go_sem]) rfl ⟨?_, hB⟩
        rw [HWF.out]
        rfl
      · have hWE := HWE.out
        rw [if_neg hab] at hWE
        have HWF := Lib.hid hWE
        clear hWE HWE
        have habI : ¬ (a : Int) = (b : Int) := by omega
        clear hab d0 d1 d2 d3 d4 d5 d6
        go_wp2
        change bodyPost _ _ _ _ _ (putR wr w.heap.size 0 0 0 0 0 0 0)
        clear c0 c1 c2 c3 c4 c5 c6
        obtain ⟨c0, c1, c2, c3, c4, c5, c6⟩ := (putR_row HR1.out 0 0 0 0 0 0 0).r7
        have hB := putR_below HB.out (Nat.le_refl w.heap.size) 0 0 0 0 0 0 0
        generalize putR wr w.heap.size 0 0 0 0 0 0 0 = W' at *
        simp only [Nat.zero_add] at c0 c1 c2 c3 c4 c5 c6
        refine bodyPost_ret (v := .tuple #[.agg #[.int .i64 0, .int .i64 0, .int .i64 0, .int .i64 0, .int .i64 0, .int .i64 0, .int .i64 0], .int .i64 7]) (by simp [results, Tryd.results83, c0, c1, c2, c3, c4, c5, c6, go_sem]) rfl ⟨?_, hB⟩
        rw [HWF.out]
        rfl
theorem Of_any (num den : Int) (w : World) (hp : PrL w) : Calls Tryd.prog 83 #[.int .i64 num, .int .i64 den] w (RtPost w (ofW num den)) := by
  by_cases h : 1 ≤ num ∧ num ≤ 1000000000000 ∧ 1 ≤ den ∧ den ≤ 1000000000000
  · obtain ⟨h1, h2, h3, h4⟩ := h
    obtain ⟨n, rfl⟩ := Int.eq_ofNat_of_zero_le (show 0 ≤ num by omega)
    obtain ⟨d, rfl⟩ := Int.eq_ofNat_of_zero_le (show 0 ≤ den by omega)
    exact Of_good n d w hp (by omega) (by omega) (by omega) (by omega)
  · exact Of_bad num den w h
end Go.Proofs.YtkoghdgfllichaaDoor
