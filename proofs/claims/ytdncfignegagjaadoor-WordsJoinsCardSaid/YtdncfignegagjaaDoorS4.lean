import Derived.Test.YtdncfignegagjaaDoorS1
namespace Go.Proofs.YtdncfignegagjaaDoor
open Go.RowKit

/-! How the reference takes a field off a line. -/
theorem idx32_app : ∀ {x : List UInt8} (_ : ∀ c ∈ x, c ≠ 32) (r : List UInt8), idx32 (x ++ r) = x.length + idx32 r
  | [], _, r => by simp
  | c :: x, h, r => by
    rw [List.cons_append, idx32, if_neg (h c (by simp)), idx32_app (fun d hd => h d (by simp [hd])) r, List.length_cons]; omega
theorem qend_dbl : ∀ (s r : List UInt8), (r = [] ∨ ∃ c r', r = c :: r' ∧ c ≠ 34) → qend (dbl s ++ 34 :: r) = (dbl s).length + 1
  | [], r, h => by
    rcases h with rfl | ⟨c, r', rfl, hc⟩
    · rfl
    · simp only [dbl, List.nil_append, List.length_nil]
      rw [qend, if_pos rfl, if_neg hc]
  | c :: s, r, h => by
    have ih := qend_dbl s r h
    rw [dbl]
    by_cases hc : c = 34
    · rw [if_pos hc, List.cons_append, List.cons_append, qend, if_pos rfl, if_pos rfl, ih]; simp
    · rw [if_neg hc, List.cons_append]
      cases hd : dbl s ++ 34 :: r with
      | nil => simp at hd
      | cons d rr =>
        rw [qend, if_neg hc, ← hd, ih]; simp
theorem endW_field {y rest : List UInt8} (h : FieldS y) (hr : rest = [] ∨ ∃ b, rest = 32 :: b) : endW (y ++ rest) = y.length := by
  rcases h with h | ⟨s, _, rfl⟩
  · obtain ⟨hne, hgood, _⟩ := bare_good h
    cases y with
    | nil => exact absurd rfl hne
    | cons c r =>
      rw [List.cons_append, endW, if_neg (hgood c (by simp)).2, ← List.cons_append, idx32_app (fun d hd => (hgood d hd).1)]
      rcases hr with rfl | ⟨b, rfl⟩
      · rfl
      · rfl
  · have hq : quoted s ++ rest = 34 :: (dbl s ++ 34 :: rest) := by simp [quoted]
    rw [hq, endW, if_pos rfl, qend_dbl]
    · simp [quoted]
    · rcases hr with rfl | ⟨b, rfl⟩
      · exact .inl rfl
      · exact .inr ⟨32, b, rfl, by decide⟩
theorem parse_some {t : List UInt8} (h : parseO t ≠ none) : FieldS t ∨ ∃ y b, t = y ++ 32 :: b ∧ FieldS y ∧ b ≠ [] := by
  by_cases h1 : FieldS t
  · exact .inl h1
  · right
    refine Classical.byContradiction fun hn => h (parseO_none h1 fun y b e hy => hn ⟨y, b, e, hy, ?_⟩)
    rintro rfl
    apply h
    rw [e, parseO_more hy, parseO_nil]; rfl
def OkAt (t : List UInt8) (e : Nat) : Prop := FieldS (t.take e) ∧ (e = t.length ∨ (t[e]? = some 32 ∧ e + 1 < t.length))
theorem parse_okS {t : List UInt8} (h : parseO t ≠ none) : OkAt t (endW t) := by
  rcases parse_some h with h1 | ⟨y, b, rfl, hy, hb⟩
  · have e := endW_field h1 (rest := []) (.inl rfl)
    rw [List.append_nil] at e
    rw [e]
    exact ⟨by rw [List.take_length]; exact h1, .inl rfl⟩
  · have e := endW_field hy (rest := 32 :: b) (.inr ⟨b, rfl⟩)
    rw [e]
    refine ⟨by simpa using hy, .inr ⟨by simp, ?_⟩⟩
    have := List.length_pos_iff.2 hb
    simp; omega
theorem parse_badS {t : List UInt8} (h : ¬ OkAt t (endW t)) : parseO t = none := Classical.byContradiction fun e => h (parse_okS e)
theorem step_one {t : List UInt8} (h : FieldS (t.take (endW t))) (he : endW t = t.length) : parseO t = some [(readW (t.take (endW t))).1] := by
  rw [he, List.take_length] at h ⊢
  exact parseO_one h
theorem step_more {t : List UInt8} {e : Nat} (h : FieldS (t.take e)) (he : t[e]? = some 32) : parseO t = (parseO (t.drop (e + 1))).map ((readW (t.take e)).1 :: ·) := by
  obtain ⟨hk, hv⟩ := List.getElem?_eq_some_iff.1 he
  have : t = t.take e ++ 32 :: t.drop (e + 1) := by
    conv => lhs; rw [← List.take_append_drop e t, List.drop_eq_getElem_cons hk, hv]
  conv => lhs; rw [this]
  exact parseO_more h _
theorem idx32_le : ∀ l : List UInt8, idx32 l ≤ l.length
  | [] => Nat.le_refl _
  | c :: r => by
    have := idx32_le r
    unfold idx32; split <;> simp <;> omega
theorem qend_le : ∀ l : List UInt8, qend l ≤ l.length
  | [] => Nat.le_refl _
  | [_] => Nat.le_refl _
  | c :: d :: r => by
    have h1 := qend_le r
    have h2 := qend_le (d :: r)
    unfold qend
    simp only [List.length_cons] at h2 ⊢
    split
    · split <;> omega
    · omega
theorem endW_le (l : List UInt8) : endW l ≤ l.length := by
  cases l with
  | nil => exact Nat.le_refl _
  | cons c r =>
    rw [endW]
    by_cases h : c = 34
    · rw [if_pos h]
      have := qend_le r
      show qend r + 1 ≤ r.length + 1; omega
    · rw [if_neg h]; exact idx32_le _
/-- The head of a field that begins with a quotation mark, or with none. -/
theorem field_head {x : List UInt8} {c : UInt8} (h : FieldS x) (hc : x.head? = some c) : (c = 34 → ∃ s, textB s = true ∧ x = quoted s) ∧ (c ≠ 34 → bareB x = true) := by
  rcases h with h | ⟨s, hs, rfl⟩
  · refine ⟨fun e => ?_, fun _ => h⟩
    exfalso
    obtain ⟨_, hg, _⟩ := bare_good h
    cases x with
    | nil => simp at hc
    | cons d r =>
      simp at hc
      exact (hg d (by simp)).2 (hc.trans e)
  · refine ⟨fun _ => ⟨s, hs, rfl⟩, fun e => ?_⟩
    simp [quoted] at hc
    exact absurd hc.symm e
theorem head_take {t : List UInt8} {e : Nat} (h : t.take e ≠ []) : (t.take e).head? = t.head? := by
  cases t with
  | nil => simp at h
  | cons c r => cases e with
    | zero => simp at h
    | succ e => rfl

def RsRel (s : ByteArray) (w : World) (ov iv : Value) (wr : World) : Prop :=
  ∃ (k : Nat) (pre : List Fld), iv = .int .i64 k ∧ pre.length ≤ k ∧ k ≤ s.size + 1 ∧
    ((k < s.size ∧ parseO s.data.toList = (parseO (s.data.toList.drop k)).map (pre ++ ·)) ∨ (k = s.size + 1 ∧ parseO s.data.toList = some pre ∧ s.data.toList ≠ []) ∨ (s.data.toList = [] ∧ k = 0 ∧ pre = [])) ∧
    wr.ownsRow w.heap.size 61 2 ov pre.length (flat pre) ∧ Below w.heap.size w wr
def RFldsPost (w : World) (x : List Fld × Int) (e : Ending) (w' : World) : Prop :=
  ∃ v, e = .returned (.tuple #[v, .int .i64 x.2]) ∧ w'.ownsRow w.heap.size 61 2 v x.1.length (flat x.1) ∧ Below w.heap.size w w'
theorem rfPost_err {w w' : World} {x : List Fld × Int} {e : Int} (h : x = ([], e)) (hb : Below w.heap.size w w') : RFldsPost w x (.returned (.tuple #[.slice none 0 0, .int .i64 e])) w' := by
  subst h; exact ⟨_, rfl, World.ownsRow_nil _ _ _ _, hb⟩
/-- What each way through a round knows. -/
theorem rs_bad {s : ByteArray} {k : Nat} {pre : List Fld} (h4 : ¬ 4096 < s.size) (hk : k < s.size) (hp : parseO s.data.toList = (parseO (s.data.toList.drop k)).map (pre ++ ·)) (hbad : ¬ OkAt (s.data.toList.drop k) (endW (s.data.toList.drop k))) : splitW s.data.toList = ([], 6) := by
  have hn : s.data.toList ≠ [] := by intro e; have := congrArg List.length e; rw [len_eq] at this; have h0 : s.size = 0 := this; omega
  rw [splitW_parse, if_neg (by rw [len_eq]; exact h4), if_neg hn, hp, parse_badS hbad]; rfl
theorem rs_end {s : ByteArray} {k e : Nat} {pre : List Fld} {f : Fld} (_hk : k < s.size) (hp : parseO s.data.toList = (parseO (s.data.toList.drop k)).map (pre ++ ·)) (he : e = endW (s.data.toList.drop k)) (hf : FieldS ((s.data.toList.drop k).take e))
    (hfe : (readW ((s.data.toList.drop k).take e)).1 = f) (hl : k + e = s.size) : parseO s.data.toList = some (pre ++ [f]) := by
  subst he
  rw [hp, step_one hf (by rw [List.length_drop, len_eq]; omega), hfe]; rfl
theorem rs_more {s : ByteArray} {k e : Nat} {pre : List Fld} {f : Fld} (hp : parseO s.data.toList = (parseO (s.data.toList.drop k)).map (pre ++ ·)) (hf : FieldS ((s.data.toList.drop k).take e))
    (hfe : (readW ((s.data.toList.drop k).take e)).1 = f) (hl : k + e < s.size) (h32 : s[k + e] = 32) : parseO s.data.toList = (parseO (s.data.toList.drop (k + e + 1))).map ((pre ++ [f]) ++ ·) := by
  have h : (s.data.toList.drop k)[e]? = some 32 := by
    rw [List.getElem?_drop, List.getElem?_eq_getElem (by rw [len_eq]; exact hl), ← h32]; rfl
  rw [hp, step_more hf h, hfe, List.drop_drop, Option.map_map, show k + (e + 1) = k + e + 1 by omega]
  congr 1; funext x; simp
theorem rs_done {s : ByteArray} {pre : List Fld} (h4 : ¬ 4096 < s.size) (hp : parseO s.data.toList = some pre) (hn : s.data.toList ≠ []) : splitW s.data.toList = if 64 < pre.length then ([], 3) else (pre, 0) := by
  rw [splitW_parse, if_neg (by rw [len_eq]; exact h4), if_neg hn, hp]; rfl
end Go.Proofs.YtdncfignegagjaaDoor
