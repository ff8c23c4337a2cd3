import Derived.Test.YtdncfignegagjaaDoorRS3
namespace Go.Proofs.YtdncfignegagjaaDoor
open Go.RowKit

/-! Fields and lines, without memory. -/
theorem unq_cases' (l : List UInt8) : (∃ t, textB t = true ∧ quoted t = l ∧ unquoteW l = (t, 0)) ∨ unquoteW l = ([], 6) := by
  by_cases h : l.length < 2
  · exact .inr (unquoteW_short h)
  by_cases h1 : quoted (inner l) = l
  · cases ht : textB (inner l)
    · exact .inr (unquoteW_text h ht)
    · exact .inl ⟨_, ht, h1, unquoteW_yes h ht h1⟩
  · exact .inr (unquoteW_other h h1)
theorem bare_good {x : List UInt8} (h : bareB x = true) : x ≠ [] ∧ (∀ c ∈ x, c ≠ 32 ∧ c ≠ 34) ∧ textB x = true := by
  have hne : x ≠ [] := by rintro rfl; simp [bareB] at h
  rw [bare_text hne, Bool.and_eq_true, List.all_eq_true] at h
  refine ⟨hne, fun c hc => ?_, h.2⟩
  have := h.1 c hc
  simp only [goodC, Bool.and_eq_true, Bool.not_eq_true', decide_eq_false_iff_not] at this
  exact ⟨u8_n32 this.1, u8_n34 this.2⟩
theorem quoted_no_bare (s : List UInt8) : bareB (quoted s) = false := by
  cases h : bareB (quoted s)
  · rfl
  · exact absurd rfl ((bare_good h).2.1 34 (by simp [quoted])).2

theorem cutIdx_bare : ∀ {x : List UInt8} (_ : ∀ c ∈ x, c ≠ 32 ∧ c ≠ 34) (r : List UInt8), cutIdx false (x ++ r) = (cutIdx false r).map (· + x.length)
  | [], _, r => by simp
  | c :: x, h, r => by
    have h1 := h c (by simp)
    rw [List.cons_append, cutIdx, if_neg (fun e => h1.1 e.1), flipQ, if_neg h1.2, cutIdx_bare (fun d hd => h d (by simp [hd])) r, Option.map_map]
    congr 1; try (funext i; simp; try omega)
theorem cutIdx_dbl : ∀ (s r : List UInt8), cutIdx true (dbl s ++ r) = (cutIdx true r).map (· + (dbl s).length)
  | [], r => by simp [dbl]
  | c :: s, r => by
    rw [dbl]
    by_cases h : c = 34
    · rw [if_pos h, List.cons_append, List.cons_append, cutIdx, if_neg (by decide), cutIdx, if_neg (by decide)]
      rw [show flipQ (flipQ true 34) 34 = true from rfl, cutIdx_dbl s r, Option.map_map, Option.map_map]
      congr 1
    · rw [if_neg h, List.cons_append, cutIdx, if_neg (by simp), flipQ, if_neg h, cutIdx_dbl s r, Option.map_map]
      congr 1
theorem cutIdx_quoted (s r : List UInt8) : cutIdx false (quoted s ++ r) = (cutIdx false r).map (· + (quoted s).length) := by
  unfold quoted
  rw [List.cons_append, cutIdx, if_neg (by decide), show flipQ false 34 = true from rfl, List.append_assoc, cutIdx_dbl]
  rw [List.cons_append, List.nil_append, cutIdx, if_neg (by simp), show flipQ true 34 = false from rfl, Option.map_map, Option.map_map]
  congr 1; try (funext i; simp; try omega)
theorem cutIdx_at : ∀ (l : List UInt8) (q : Bool) (i : Nat), cutIdx q l = some i → l = l.take i ++ 32 :: l.drop (i + 1)
  | [], _, _, h => by simp [cutIdx] at h
  | c :: r, q, i, h => by
    unfold cutIdx at h
    split at h
    · rename_i hc
      cases h; simp [hc.1]
    · obtain ⟨j, hj, rfl⟩ := Option.map_eq_some_iff.1 h
      have := cutIdx_at r _ j hj
      simp only [List.take_succ_cons, List.drop_succ_cons, List.cons_append]
      rw [← this]
theorem cutW_parts (l : List UInt8) : ((cutW l).2.2 = true ∧ l = (cutW l).1 ++ 32 :: (cutW l).2.1) ∨ ((cutW l).2.2 = false ∧ (cutW l).1 = l ∧ (cutW l).2.1 = []) := by
  unfold cutW
  cases h : cutIdx false l with
  | none => exact .inr ⟨rfl, rfl, rfl⟩
  | some i => exact .inl ⟨rfl, cutIdx_at l false i h⟩

/-- A written field. -/
def FieldS (x : List UInt8) : Prop := bareB x = true ∨ ∃ s, textB s = true ∧ x = quoted s
theorem cutIdx_field {x : List UInt8} (h : FieldS x) (r : List UInt8) : cutIdx false (x ++ r) = (cutIdx false r).map (· + x.length) := by
  rcases h with h | ⟨s, _, rfl⟩
  · exact cutIdx_bare (bare_good h).2.1 r
  · exact cutIdx_quoted s r
theorem cutW_whole {x : List UInt8} (h : FieldS x) : cutW x = (x, [], false) := by
  have := cutIdx_field h []
  rw [List.append_nil] at this
  unfold cutW; rw [this]; rfl
theorem cutW_more {x : List UInt8} (h : FieldS x) (b : List UInt8) : cutW (x ++ 32 :: b) = (x, b, true) := by
  have := cutIdx_field h (32 :: b)
  rw [show cutIdx false (32 :: b) = some 0 from rfl] at this
  unfold cutW; rw [this]; simp
theorem readW_field {x : List UInt8} (h : (readW x).2 = 0) : FieldS x := by
  unfold readW at h
  split at h
  · rename_i hb; exact .inl hb
  · split at h
    · rename_i hne; exact absurd h hne
    · rename_i hz
      rcases unq_cases' x with ⟨t, h1, h2, _⟩ | h1
      · exact .inr ⟨t, h1, h2.symm⟩
      · rw [h1] at hz; simp at hz
theorem readW_bare' {x : List UInt8} (h : bareB x = true) : readW x = ((false, x), 0) := readW_bare h
theorem unq_quoted {s : List UInt8} (h : textB s = true) : unquoteW (quoted s) = (s, 0) := by rw [unq_ok rfl, if_pos h]
theorem readW_quoted {s : List UInt8} (h : textB s = true) : readW (quoted s) = ((true, s), 0) := readW_ok (quoted_no_bare s) (unq_quoted h)
theorem field_ne {x : List UInt8} (h : FieldS x) : x ≠ [] := by
  rcases h with h | ⟨s, _, rfl⟩
  · exact (bare_good h).1
  · simp [quoted]
theorem readW_zero {x : List UInt8} (h : FieldS x) : (readW x).2 = 0 := by
  rcases h with h | ⟨s, hs, rfl⟩
  · rw [readW_bare h]
  · rw [readW_quoted hs]

/-- How a field is written, and the line of fields. -/
def writeL (x : Fld) : List UInt8 := if x.1 then quoted x.2 else x.2
theorem write_field {x : Fld} (h : rightB x = true) : FieldS (writeL x) ∧ (readW (writeL x)).1 = x := by
  obtain ⟨q, s⟩ := x
  cases q
  · exact ⟨.inl h, by rw [show writeL (false, s) = s from rfl, readW_bare h]⟩
  · exact ⟨.inr ⟨s, h, rfl⟩, by rw [show writeL (true, s) = quoted s from rfl, readW_quoted h]⟩
theorem field_write {x : List UInt8} (h : FieldS x) : writeL (readW x).1 = x ∧ rightB (readW x).1 = true := by
  rcases h with h | ⟨s, hs, rfl⟩
  · rw [readW_bare h]; exact ⟨rfl, h⟩
  · rw [readW_quoted hs]; exact ⟨rfl, hs⟩
def joinL : List Fld → List UInt8
  | [] => []
  | [x] => writeL x
  | x :: y :: r => writeL x ++ 32 :: joinL (y :: r)
theorem joinL_cons (x : Fld) {r : List Fld} (h : r ≠ []) : joinL (x :: r) = writeL x ++ 32 :: joinL r := by
  cases r with
  | nil => exact absurd rfl h
  | cons y r => rfl
theorem joinL_snoc : ∀ (l : List Fld) (x : Fld), joinL (l ++ [x]) = (if l = [] then [] else joinL l ++ [32]) ++ writeL x
  | [], x => by simp [joinL]
  | [y], x => by simp [joinL]
  | y :: z :: r, x => by
    have := joinL_snoc (z :: r) x
    rw [if_neg (by simp)] at this
    rw [List.cons_append, joinL_cons y (by simp), this, joinL_cons y (by simp), if_neg (by simp)]
    simp

/-- The fields of what is left of a line, if all are written fields. -/
def parseO (l : List UInt8) : Option (List Fld) := if (itW (l.length + 1) l).any (fun x => !x.2) then none else some ((itW (l.length + 1) l).map (·.1))
theorem itW_fuel : ∀ (n m : Nat) (l : List UInt8), l.length < n → l.length < m → itW n l = itW m l
  | 0, _, _, h, _ => by omega
  | _ + 1, 0, _, _, h => by omega
  | n + 1, m + 1, l, hn, hm => by
    unfold itW
    congr 1
    split
    · rfl
    · split
      · rename_i hf
        have := cutW_lt hf
        exact itW_fuel n m _ (by omega) (by omega)
      · rfl
theorem parseO_bad {l : List UInt8} (h : (readW (cutW l).1).2 ≠ 0) : parseO l = none := by
  unfold parseO itW
  rw [List.any_cons, decide_eq_false h]; rfl
theorem parseO_one {x : List UInt8} (h : FieldS x) : parseO x = some [(readW x).1] := by
  unfold parseO itW
  rw [cutW_whole h, readW_zero h]; simp
theorem parseO_more {x : List UInt8} (h : FieldS x) (b : List UInt8) : parseO (x ++ 32 :: b) = (parseO b).map ((readW x).1 :: ·) := by
  unfold parseO
  rw [itW, cutW_more h b, readW_zero h]
  simp only [ne_eq, not_true_eq_false, if_false, if_true, decide_true]
  rw [itW_fuel (x ++ 32 :: b).length (b.length + 1) b (by simp; omega) (by omega), List.any_cons, List.map_cons]
  simp only [Bool.not_true, Bool.false_or]
  split <;> rfl
theorem parseO_none {l : List UInt8} (h1 : ¬ FieldS l) (h2 : ∀ x b, l = x ++ 32 :: b → ¬ FieldS x) : parseO l = none := by
  apply parseO_bad
  intro e
  have hf := readW_field e
  rcases cutW_parts l with ⟨_, h⟩ | ⟨_, h, _⟩
  · exact h2 _ _ h hf
  · rw [h] at hf; exact h1 hf
theorem parseO_nil : parseO [] = none := parseO_none (fun h => field_ne h rfl) (fun x b e => by simp at e)
def ofParse (o : Option (List Fld)) : List Fld × Int := match o with
  | none => ([], 6)
  | some fs => if 64 < fs.length then ([], 3) else (fs, 0)
theorem splitW_parse (l : List UInt8) : splitW l = (if 4096 < l.length then ([], 3) else if l = [] then ([], 0) else ofParse (parseO l) : List Fld × Int) := by
  unfold splitW
  split
  · rfl
  · by_cases h : l = []
    · rw [if_pos h]; subst h; rfl
    · rw [if_neg h]
      unfold itemsW parseO
      rw [if_neg h]
      cases (itW (l.length + 1) l).any fun x => !x.2
      · simp [ofParse]
      · simp [ofParse]
/-- The line of the fields that are read is the line. -/
theorem join_parse : ∀ (n : Nat) (l : List UInt8) (fs : List Fld), l.length ≤ n → parseO l = some fs → joinL fs = l ∧ fs ≠ [] ∧ ∀ x ∈ fs, rightB x = true
  | 0, l, fs, hn, h => by
    have : l = [] := List.eq_nil_of_length_eq_zero (by omega)
    subst this; rw [parseO_nil] at h; cases h
  | n + 1, l, fs, hn, h => by
    have h0 : (readW (cutW l).1).2 = 0 := Classical.byContradiction fun e => by rw [parseO_bad e] at h; cases h
    have hf := readW_field h0
    obtain ⟨w1, w2⟩ := field_write hf
    rcases cutW_parts l with ⟨_, hl⟩ | ⟨_, hl, _⟩
    · have hp := parseO_more hf (cutW l).2.1
      rw [← hl, h] at hp
      obtain ⟨gs, hg, e⟩ := Option.map_eq_some_iff.1 hp.symm
      subst e
      have hlen : (cutW l).2.1.length ≤ n := by
        have := congrArg List.length hl
        simp at this; omega
      obtain ⟨i1, i2, i3⟩ := join_parse n _ gs hlen hg
      refine ⟨?_, by simp, ?_⟩
      · rw [joinL_cons _ i2, i1, w1]; exact hl.symm
      · intro x hx
        rcases List.mem_cons.1 hx with rfl | hx
        · exact w2
        · exact i3 x hx
    · rw [hl] at hf w1 w2
      rw [parseO_one hf] at h
      cases h
      refine ⟨w1, by simp, ?_⟩
      intro x hx
      rw [List.mem_singleton.1 hx]; exact w2
theorem parse_join : ∀ (fs : List Fld), fs ≠ [] → (∀ x ∈ fs, rightB x = true) → parseO (joinL fs) = some fs
  | [], h, _ => absurd rfl h
  | [x], _, h => by
    obtain ⟨h1, h2⟩ := write_field (h x (by simp))
    show parseO (writeL x) = _
    rw [parseO_one h1, h2]
  | x :: y :: r, _, h => by
    obtain ⟨h1, h2⟩ := write_field (h x (by simp))
    rw [joinL_cons x (by simp), parseO_more h1, parse_join (y :: r) (by simp) (fun z hz => h z (by simp [hz])), h2]; rfl
def joinW (l : List Fld) : List UInt8 × Int :=
  if 64 < l.length then ([], 3) else if l.any (fun x => !rightB x) then ([], 2) else if 4096 < (joinL l).length then ([], 3) else (joinL l, 0)
theorem joinL_ne {fs : List Fld} (h : fs ≠ []) (hr : ∀ x ∈ fs, rightB x = true) : joinL fs ≠ [] := by
  intro e
  have := parse_join fs h hr
  rw [e, parseO_nil] at this; cases this
theorem split_join {fs : List Fld} (h : (joinW fs).2 = 0) : splitW (joinW fs).1 = (fs, 0) := by
  unfold joinW at h ⊢
  split at h
  · simp at h
  · rename_i h64
    rw [if_neg h64]
    split at h
    · simp at h
    · rename_i hr
      rw [if_neg hr]
      split at h
      · simp at h
      · rename_i h4
        rw [if_neg h4]
        simp only [Bool.not_eq_true, List.any_eq_false, Bool.not_eq_eq_eq_not, Bool.not_true] at hr
        rw [splitW_parse, if_neg h4]
        by_cases hn : fs = []
        · subst hn; simp [joinL]
        · have hr' : ∀ x ∈ fs, rightB x = true := fun x hx => by have := hr x hx; simpa using this
          rw [if_neg (joinL_ne hn hr'), parse_join fs hn hr', ofParse, if_neg h64]
theorem join_split {l : List UInt8} {fs : List Fld} (h : splitW l = (fs, 0)) : joinW fs = (l, 0) := by
  rw [splitW_parse] at h
  split at h
  · cases h
  · rename_i h4
    split at h
    · rename_i hn; subst hn; cases h; rfl
    · cases hp : parseO l with
      | none => rw [hp] at h; cases h
      | some gs =>
        rw [hp, ofParse] at h
        split at h
        · cases h
        · rename_i h64
          cases h
          obtain ⟨i1, i2, i3⟩ := join_parse l.length l _ (Nat.le_refl _) hp
          unfold joinW
          rw [if_neg h64, if_neg, i1, if_neg h4]
          simp only [Bool.not_eq_true, List.any_eq_false]
          intro x hx
          simp [i3 x hx]
end Go.Proofs.YtdncfignegagjaaDoor
