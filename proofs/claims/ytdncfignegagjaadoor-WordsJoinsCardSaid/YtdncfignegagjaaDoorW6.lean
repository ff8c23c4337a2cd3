import Derived.Test.YtdncfignegagjaaDoorW5
namespace Go.Proofs.YtdncfignegagjaaDoor
open Go.RowKit

def signW (l : List UInt8) : Int × List UInt8 :=
  if Lib.hasPrefix l [35] then (1, Lib.trimPrefix l [35]) else if Lib.hasPrefix l [98] then (-1, Lib.trimPrefix l [98]) else (0, l)
def signV (x : Int × List UInt8) : Value := .tuple #[.int .i64 x.1, .string ⟨x.2.toArray⟩]
theorem ret_signV {x : Int × List UInt8} {a : Int} {s : ByteArray} (h : x = (a, s.data.toList)) : Ending.returned (.tuple #[.int .i64 a, .string s]) = .returned (signV x) := by rw [h]; rfl
theorem signW_1 {l : List UInt8} (h : Lib.hasPrefix l [35] = true) : signW l = (1, Lib.trimPrefix l [35]) := by simp [signW, h]
theorem signW_2 {l : List UInt8} (h : Lib.hasPrefix l [35] = false) (h1 : Lib.hasPrefix l [98] = true) : signW l = (-1, Lib.trimPrefix l [98]) := by simp [signW, h, h1]
theorem signW_3 {l : List UInt8} (h : Lib.hasPrefix l [35] = false) (h1 : Lib.hasPrefix l [98] = false) : signW l = (0, l) := by simp [signW, h, h1]

set_option maxHeartbeats 400000 in
theorem sign_any (s : ByteArray) (w : World) :
    Calls Tryd.prog 53 #[.string s] w fun e w' => e = .returned (signV (signW s.data.toList)) ∧ w = w' := by
  have c1 := fun w => Tryd.strings_CutPrefix s ⟨#[35]⟩ w
  have c2 := fun w => Tryd.strings_CutPrefix s ⟨#[98]⟩ w
  simp only at c1 c2
  generalize ht1 : Lib.trimPrefix s.data.toList [35] = t1 at c1
  generalize ht2 : Lib.trimPrefix s.data.toList [98] = t2 at c2
  have Ht1 := Lib.hid ht1
  have Ht2 := Lib.hid ht2
  cases h1 : Lib.hasPrefix s.data.toList [35]
  · cases h2 : Lib.hasPrefix s.data.toList [98]
    · rw [h1] at c1
      rw [h2] at c2
      have hf := Lib.hid (signW_3 h1 h2)
      have C1 := Lib.hid c1
      have C2 := Lib.hid c2
      clear c1 c2 h1 h2 ht1 ht2
      go_enter Tryd.func53, Tryd.ntmps53
      go_wp2_with fail
      refine (C1.out _).mono ?_
      rintro e w' ⟨rfl, rfl⟩
      go_wp2_with fail
      refine (C2.out _).mono ?_
      rintro e w' ⟨rfl, rfl⟩
      go_wp2_with fail
      go_ret2
      exact ⟨ret_signV (by rw [hf.out]), rfl⟩
    · rw [h1] at c1
      rw [h2] at c2
      have hf := Lib.hid (signW_2 h1 h2)
      have C1 := Lib.hid c1
      have C2 := Lib.hid c2
      clear c1 c2 h1 h2 ht1 ht2
      go_enter Tryd.func53, Tryd.ntmps53
      go_wp2_with fail
      refine (C1.out _).mono ?_
      rintro e w' ⟨rfl, rfl⟩
      go_wp2_with fail
      refine (C2.out _).mono ?_
      rintro e w' ⟨rfl, rfl⟩
      go_wp2_with fail
      go_ret2
      exact ⟨ret_signV (by rw [hf.out, Ht2.out]), rfl⟩
  · rw [h1] at c1
    have hf := Lib.hid (signW_1 h1)
    have C1 := Lib.hid c1
    clear c1 c2 h1 ht1 ht2
    go_enter Tryd.func53, Tryd.ntmps53
    go_wp2_with fail
    refine (C1.out _).mono ?_
    rintro e w' ⟨rfl, rfl⟩
    go_wp2_with fail
    go_ret2
    exact ⟨ret_signV (by rw [hf.out, Ht1.out]), rfl⟩

def parseNoteT (c : UInt8) (r : List UInt8) : Int × Int :=
  if (intW (signW r).2 (-1) 9).2 ≠ 0 then (0, 6) else
    let n := 12 * ((intW (signW r).2 (-1) 9).1 + 1) + semL.getD (c.toNat - 97) 0 + (signW r).1
    if noteB n then (n, 0) else (0, 7)
def parseNoteW (l : List UInt8) : Int × Int :=
  match l with
  | [] => (0, 6)
  | c :: r => if c.toNat < 97 ∨ 103 < c.toNat then (0, 6) else parseNoteT c r

theorem intW_bounds {l : List UInt8} {a b : Int} (h : (intW l a b).2 = 0) : a ≤ (intW l a b).1 ∧ (intW l a b).1 ≤ b := by
  by_cases h1 : b < a
  · rw [intW_1 h1] at h; simp at h
  cases h2 : wholeB l
  · rw [intW_2 h1 h2] at h; simp at h
  by_cases h3 : ∃ v, Lib.parseIntB 64 l = .ok v
  · obtain ⟨v, h3⟩ := h3
    by_cases h4 : v < a ∨ b < v
    · rw [intW_3 h1 h2 h3 h4] at h; simp at h
    · rw [intW_4 h1 h2 h3 (by omega) (by omega)]; simp only; omega
  · rw [intW_5 h1 h2 (fun v e => h3 ⟨v, e⟩)] at h; simp at h
theorem signW_bounds (l : List UInt8) : -1 ≤ (signW l).1 ∧ (signW l).1 ≤ 1 := by
  unfold signW; split
  · simp
  · split <;> simp
theorem signW_len (l : List UInt8) : (signW l).2.length ≤ l.length := by
  unfold signW; split
  · exact trim_le _ _
  · split
    · exact trim_le _ _
    · simp
theorem sem_bounds (k : Nat) : 0 ≤ semL.getD k 0 ∧ semL.getD k 0 ≤ 11 := by
  rcases Nat.lt_or_ge k 7 with h | h
  · have : ∀ i : Fin 7, 0 ≤ semL.getD i.val 0 ∧ semL.getD i.val 0 ≤ 11 := by decide
    exact this ⟨k, h⟩
  · rw [List.getD_eq_getElem?_getD, List.getElem?_eq_none (by simpa [semL] using h)]; simp
theorem cons_eq (s : ByteArray) (h : 0 < s.size) : s.data.toList = s[0] :: (s.extract 1 s.size).data.toList := by
  have h1 : s.data.toList = s.data.toList.headD 0 :: s.data.toList.tail := by
    have : s.data.toList ≠ [] := by rw [← toL]; exact empty_no s h
    cases hl : s.data.toList with
    | nil => exact absurd hl this
    | cons a r => simp
  rw [head_eq s h] at h1
  rw [h1]
  congr 1
  rw [Lib.extract_to_end, List.drop_one]

theorem parseNoteW_nil {l : List UInt8} (h : l = []) : parseNoteW l = (0, 6) := by rw [h]; rfl
theorem parseNoteW_bad {l : List UInt8} {c : UInt8} {r : List UInt8} (h : l = c :: r) (h1 : c.toNat < 97 ∨ 103 < c.toNat) : parseNoteW l = (0, 6) := by rw [h]; simp [parseNoteW, h1]
theorem parseNoteW_good {l : List UInt8} {c : UInt8} {r : List UInt8} (h : l = c :: r) (h1 : ¬ (c.toNat < 97 ∨ 103 < c.toNat)) : parseNoteW l = parseNoteT c r := by rw [h]; simp [parseNoteW, h1]

set_option maxHeartbeats 1000000 in
theorem parseNote_any (s : ByteArray) (w : World) (hT : Tabs w) (hs : s.size ≤ 281474976710656) :
    Calls Tryd.prog 24 #[.string s] w fun e w' => e = .returned (intV (parseNoteW s.data.toList)) ∧ Below w.heap.size w w' := by
  by_cases h0 : s.size = 0
  · have e1 := empty_yes s h0
    have e2 := isEmpty_yes s h0
    have hf := Lib.hid (parseNoteW_nil (l := s.data.toList) (by rw [← toL]; exact e1))
    clear h0
    go_enter Tryd.func24, Tryd.ntmps24
    go_wp2_with fail
    go_ret2
    exact ⟨ret_intV hf.out, Below.refl _ _⟩
  have hpos : 0 < s.size := by omega
  have e1 := empty_no s hpos
  have e2 := isEmpty_no s hpos
  have hcons := cons_eq s hpos
  by_cases h1 : (s[0].toNat : Int) < 97
  · have hf := Lib.hid (parseNoteW_bad hcons (.inl (by omega)))
    clear hcons
    go_enter Tryd.func24, Tryd.ntmps24
    go_wp2_with fail
    go_ret2
    exact ⟨ret_intV hf.out, Below.refl _ _⟩
  by_cases h2 : 103 < (s[0].toNat : Int)
  · have hf := Lib.hid (parseNoteW_bad hcons (.inr (by omega)))
    clear hcons
    go_enter Tryd.func24, Tryd.ntmps24
    go_wp2_with fail
    go_ret2
    exact ⟨ret_intV hf.out, Below.refl _ _⟩
  have hf0 := parseNoteW_good hcons (by omega)
  have hts : (s.extract 1 s.size).size ≤ 281474976710656 := by simp; omega
  have hsg := signW_bounds (s.extract 1 s.size).data.toList
  have hsl := signW_len (s.extract 1 s.size).data.toList
  rw [len_eq] at hsl
  unfold parseNoteT at hf0
  clear hcons
  have csg := fun w => sign_any (s.extract 1 s.size) w
  generalize hx : signW (s.extract 1 s.size).data.toList = x at *
  obtain ⟨sg, rest⟩ := x
  simp only [signV] at csg hsg hsl hf0
  have CS := Lib.hid csg
  have HF := Lib.hid hf0
  clear csg hf0 hx
  have hob := @intW_bounds rest (-1) 9
  have ci := fun w hT => int_any ⟨rest.toArray⟩ (-1) 9 w hT (by show rest.length ≤ _; omega)
  try simp only at ci
  have HF := HF.out
  try simp only at HF
  generalize hy : intW rest (-1) 9 = y at *
  obtain ⟨o, er⟩ := y
  simp only [intV] at ci hob HF
  have CI := Lib.hid ci
  have HT := Lib.hid hT
  clear ci hT hy
  by_cases her : er = 0
  · subst her
    have hob := hob rfl
    simp only [ne_eq, not_true, if_false] at HF
    have hsem := sem_bounds (s[0].toNat - 97)
    have hc := fun (w : World) (h : Tabs w) => h.semis (s[0].toNat - 97) (by omega)
    generalize hz : semL.getD (s[0].toNat - 97) 0 = z at *
    have HC := Lib.hid hc
    clear hc hz
    cases hn : noteB (12 * (o + 1) + z + sg)
    · rw [hn] at HF
      have HF := Lib.hid HF
      have HN := Lib.hid hn
      clear hn
      go_enter Tryd.func24, Tryd.ntmps24
      go_wp2_with fail
      refine (CS.out _).mono ?_
      rintro e w' ⟨rfl, rfl⟩
      go_wp2_with fail
      refine (CI.out _ HT.out).mono ?_
      rintro e w' ⟨rfl, hb⟩
      have hcell := HC.out _ (HT.out.below hb)
      go_wp2_with fail
      refine (note_any _ _).mono ?_
      rintro e w'' ⟨rfl, rfl⟩
      rw [HN.out]
      go_wp2_with fail
      go_ret2
      exact ⟨ret_intV (by rw [HF.out]; simp [HN.out]), hb⟩
    · rw [hn] at HF
      have HF := Lib.hid HF
      have HN := Lib.hid hn
      clear hn
      go_enter Tryd.func24, Tryd.ntmps24
      go_wp2_with fail
      refine (CS.out _).mono ?_
      rintro e w' ⟨rfl, rfl⟩
      go_wp2_with fail
      refine (CI.out _ HT.out).mono ?_
      rintro e w' ⟨rfl, hb⟩
      have hcell := HC.out _ (HT.out.below hb)
      go_wp2_with fail
      refine (note_any _ _).mono ?_
      rintro e w'' ⟨rfl, rfl⟩
      rw [HN.out]
      go_wp2_with fail
      go_ret2
      exact ⟨ret_intV (by rw [HF.out]; simp), hb⟩
  · simp only [ne_eq, her, not_false_eq_true, if_true] at HF
    have HF := Lib.hid HF
    have q1 : (er == 0) = false := by simp [her]
    have q2 : (er != 0) = true := by simp [her]
    have Her := Lib.hid her
    clear her hob
    go_enter Tryd.func24, Tryd.ntmps24
    go_wp2_with fail
    refine (CS.out _).mono ?_
    rintro e w' ⟨rfl, rfl⟩
    go_wp2_with fail
    refine (CI.out _ HT.out).mono ?_
    rintro e w' ⟨rfl, hb⟩
    go_wp2_with fail
    go_ret2
    exact ⟨ret_intV (by rw [HF.out]; simp [Her.out]), hb⟩
end Go.Proofs.YtdncfignegagjaaDoor
