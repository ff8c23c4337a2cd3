import Derived.Test.YtkoghdgfllichaaDoorREA
import Derived.Test.YtkoghdgfllichaaDoorG0
namespace Go.Proofs.YtkoghdgfllichaaDoor

/-! Natural numbers as words of 64 bits. -/
def WB : Nat := 18446744073709551616
theorem WB_eq : WB = 18446744073709551616 := rfl
theorem WB_pos : 0 < WB := by decide
theorem WB_two : 2 ≤ WB := by decide
def wv : List Nat → Nat
  | [] => 0
  | x :: r => x + WB * wv r
def okW (l : List Nat) : Prop := ∀ x ∈ l, x < WB
theorem okW_nil : okW [] := by intro x h; cases h
theorem okW_cons {x : Nat} {l : List Nat} : okW (x :: l) ↔ x < WB ∧ okW l := by simp [okW]
theorem okW_append {a b : List Nat} : okW (a ++ b) ↔ okW a ∧ okW b := by
  simp only [okW, List.mem_append]
  constructor
  · intro h; exact ⟨fun x hx => h x (.inl hx), fun x hx => h x (.inr hx)⟩
  · rintro ⟨h1, h2⟩ x (hx | hx)
    · exact h1 x hx
    · exact h2 x hx
theorem okW_take {l : List Nat} (h : okW l) (k : Nat) : okW (l.take k) := fun x hx => h x (List.mem_of_mem_take hx)
theorem okW_drop {l : List Nat} (h : okW l) (k : Nat) : okW (l.drop k) := fun x hx => h x (List.mem_of_mem_drop hx)
theorem okW_zero (n : Nat) : okW (List.replicate n 0) := fun x hx => by rw [(List.mem_replicate.1 hx).2]; exact WB_pos
theorem wv_append (a b : List Nat) : wv (a ++ b) = wv a + WB ^ a.length * wv b := by
  induction a with
  | nil => simp [wv]
  | cons x r ih =>
    simp only [List.cons_append, wv, ih, List.length_cons, Nat.pow_succ]
    rw [Nat.mul_add, ← Nat.mul_assoc, Nat.mul_comm WB (WB ^ r.length), Nat.add_assoc]
theorem wv_zero (n : Nat) : wv (List.replicate n 0) = 0 := by
  induction n with
  | zero => rfl
  | succ n ih => rw [List.replicate_succ, wv, ih, Nat.mul_zero]
theorem wv_snoc (a : List Nat) (x : Nat) : wv (a ++ [x]) = wv a + WB ^ a.length * x := by
  rw [wv_append]; simp [wv]
theorem wpow_pos (n : Nat) : 0 < WB ^ n := Nat.pow_pos WB_pos
theorem wv_lt : ∀ {l : List Nat}, okW l → wv l < WB ^ l.length
  | [], _ => by simp [wv]
  | x :: r, h => by
    obtain ⟨hx, hr⟩ := okW_cons.1 h
    have ih := wv_lt hr
    have h1 : WB * (wv r + 1) ≤ WB * WB ^ r.length := Nat.mul_le_mul_left _ ih
    rw [Nat.mul_add, Nat.mul_one] at h1
    rw [wv, List.length_cons, Nat.pow_succ, Nat.mul_comm (WB ^ r.length)]
    omega
theorem wv_split (l : List Nat) (k : Nat) (hk : k ≤ l.length) : wv l = wv (l.take k) + WB ^ k * wv (l.drop k) := by
  conv => lhs; rw [← List.take_append_drop k l]
  rw [wv_append, List.length_take, Nat.min_eq_left hk]
theorem cons_wb {x y a b : Nat} (hx : x < WB) (hy : y < WB) (h : x + WB * a = y + WB * b) : x = y ∧ a = b := by
  have h1 : (x + WB * a) % WB = (y + WB * b) % WB := by rw [h]
  rw [Nat.add_mul_mod_self_left, Nat.add_mul_mod_self_left, Nat.mod_eq_of_lt hx, Nat.mod_eq_of_lt hy] at h1
  subst h1
  exact ⟨rfl, Nat.eq_of_mul_eq_mul_left WB_pos (Nat.add_left_cancel h)⟩
theorem wv_inj : ∀ {a b : List Nat}, okW a → okW b → a.length = b.length → wv a = wv b → a = b
  | [], [], _, _, _, _ => rfl
  | [], _ :: _, _, _, h, _ => by simp at h
  | _ :: _, [], _, _, h, _ => by simp at h
  | x :: r, y :: s, ha, hb, hl, hv => by
    obtain ⟨hx, hr⟩ := okW_cons.1 ha
    obtain ⟨hy, hs⟩ := okW_cons.1 hb
    obtain ⟨h1, h2⟩ := cons_wb hx hy hv
    rw [h1, wv_inj hr hs (by simpa using hl) h2]

theorem wv_set : ∀ {L : List Nat} {j o : Nat} (d : Nat), L[j]? = some o → wv (L.set j d) + WB ^ j * o = wv L + WB ^ j * d
  | [], j, o, d, h => by simp at h
  | x :: L, 0, o, d, h => by
    simp at h
    subst h
    simp only [List.set_cons_zero, wv, Nat.pow_zero, Nat.one_mul]
    omega
  | x :: L, j + 1, o, d, h => by
    have ih := wv_set d (show L[j]? = some o by simpa using h)
    simp only [List.set_cons_succ, wv, Nat.pow_succ]
    rw [Nat.mul_comm (WB ^ j) WB, Nat.mul_assoc, Nat.mul_assoc]
    have e : WB * (wv (L.set j d) + WB ^ j * o) = WB * (wv L + WB ^ j * d) := by rw [ih]
    rw [Nat.mul_add, Nat.mul_add] at e
    omega
theorem okW_set {L : List Nat} {j d : Nat} (h : okW L) (hd : d < WB) : okW (L.set j d) := by
  intro x hx
  rcases List.mem_or_eq_of_mem_set hx with h1 | h1
  · exact h x h1
  · rw [h1]; exact hd
theorem wv_take_succ {l : List Nat} {k x : Nat} (h : l[k]? = some x) : wv (l.take (k + 1)) = wv (l.take k) + WB ^ k * x := by
  have hk := (List.getElem?_eq_some_iff.1 h).1
  rw [List.take_add_one, h]
  show wv (l.take k ++ [x]) = _
  rw [wv_snoc, List.length_take, Nat.min_eq_left (by omega)]
/-- One word of a += n b: what is written, and what is carried on. -/
theorem mac_word {x n o c : Nat} (hx : x < WB) (hn : n < WB) (ho : o < WB) (hc : c < WB) : (x * n + o + c) / WB < WB := by
  have h1 : x * n ≤ (WB - 1) * (WB - 1) := Nat.mul_le_mul (by omega) (by omega)
  rw [WB_eq] at *
  have h2 : (18446744073709551616 - 1) * (18446744073709551616 - 1) = 340282366920938463426481119284349108225 := by decide
  rw [h2] at h1
  omega
/-- The loop of a += n b: k words are done. L: the row so far; A: as it was. -/
def MacRel (A b : List Nat) (n k c : Nat) (L : List Nat) : Prop :=
  L.length = A.length ∧ okW L ∧ c < WB ∧ L.drop k = A.drop k ∧ wv (L.take k) + WB ^ k * c = wv (A.take k) + n * wv (b.take k)
theorem MacRel.start (A b : List Nat) (n : Nat) (h : okW A) : MacRel A b n 0 0 A :=
  ⟨rfl, h, WB_pos, rfl, by simp [wv]⟩
theorem MacRel.step {A b : List Nat} {n k c : Nat} {L : List Nat} (h : MacRel A b n k c L) {x o : Nat} (hb : okW b) (hn : n < WB) (hx : b[k]? = some x) (ho : A[k]? = some o) :
    L[k]? = some o ∧ MacRel A b n (k + 1) ((x * n + o + c) / WB) (L.set k ((x * n + o + c) % WB)) := by
  obtain ⟨h1, h2, h3, h4, h5⟩ := h
  have hk : k < A.length := (List.getElem?_eq_some_iff.1 ho).1
  have hLk : L[k]? = some o := by
    have e : (L.drop k)[0]? = (A.drop k)[0]? := by rw [h4]
    rw [List.getElem?_drop, List.getElem?_drop, Nat.add_zero] at e
    rw [e]; exact ho
  have hoW : o < WB := h2 o (List.mem_of_getElem? hLk)
  have hxW : x < WB := hb x (List.mem_of_getElem? hx)
  refine ⟨hLk, by rw [List.length_set]; exact h1, okW_set h2 (Nat.mod_lt _ WB_pos), mac_word hxW hn hoW h3, ?_, ?_⟩
  · rw [List.drop_set, if_pos (by omega)]
    have e : (L.drop k).drop 1 = (A.drop k).drop 1 := by rw [h4]
    rw [List.drop_drop, List.drop_drop] at e
    exact e
  · have e1 : (L.set k ((x * n + o + c) % WB)).take (k + 1) = L.take k ++ [(x * n + o + c) % WB] := by
      rw [List.take_add_one, List.getElem?_set_self (by omega), List.take_set, List.set_eq_of_length_le (by rw [List.length_take]; omega)]
      rfl
    have hl : (L.take k).length = k := by rw [List.length_take]; omega
    rw [e1, wv_snoc, hl, wv_take_succ hx, wv_take_succ ho, Nat.pow_succ]
    have e2 := Nat.mod_add_div (x * n + o + c) WB
    generalize (x * n + o + c) % WB = r at *
    generalize (x * n + o + c) / WB = q at *
    have e3 : WB ^ k * (r + WB * q) = WB ^ k * (x * n + o + c) := by rw [e2]
    rw [Nat.mul_add, Nat.mul_add, Nat.mul_add, ← Nat.mul_assoc (WB ^ k) WB] at e3
    have e4 : n * (wv (b.take k) + WB ^ k * x) = n * wv (b.take k) + WB ^ k * (x * n) := by rw [Nat.mul_add]; congr 1; ac_rfl
    rw [e4]
    omega
/-- What a += n b leaves. -/
theorem MacRel.done {A b : List Nat} {n c : Nat} {L : List Nat} (h : MacRel A b n A.length c L) (hl : b.length = A.length) : wv L + WB ^ A.length * c = wv A + n * wv b := by
  obtain ⟨h1, -, -, -, h5⟩ := h
  rw [List.take_of_length_le (by omega), List.take_of_length_le (by omega), List.take_of_length_le (by omega)] at h5
  exact h5
/-- The square: after k words of x the room holds (x's lowest k words) x. R: the room, of twice as many words as x. -/
def SqRel (x : List Nat) (k : Nat) (R : List Nat) : Prop :=
  R.length = 2 * x.length ∧ okW R ∧ wv (R.take (k + x.length)) = wv (x.take k) * wv x ∧ (∀ j, k + x.length ≤ j → j < 2 * x.length → R[j]? = some 0)
theorem SqRel.start (x : List Nat) : SqRel x 0 (List.replicate (2 * x.length) 0) := by
  refine ⟨by simp, okW_zero _, ?_, fun j _ hj => by rw [List.getElem?_replicate, if_pos hj]⟩
  rw [List.take_replicate, wv_zero, List.take_zero]
  show 0 = wv [] * _
  rw [show wv [] = 0 from rfl, Nat.zero_mul]
theorem SqRel.step {x R M : List Nat} {k c w : Nat} (h : SqRel x k R) (hw : x[k]? = some w) (hm : MacRel ((R.drop k).take x.length) x w x.length c M) :
    SqRel x (k + 1) ((R.take k ++ M ++ R.drop (k + x.length)).set (k + x.length) c) := by
  obtain ⟨h1, h2, h3, h4⟩ := h
  have hk : k < x.length := (List.getElem?_eq_some_iff.1 hw).1
  have hal : ((R.drop k).take x.length).length = x.length := by rw [List.length_take, List.length_drop]; omega
  have hd := MacRel.done (A := (R.drop k).take x.length) (by rw [hal]; exact hm) (by rw [hal])
  obtain ⟨m1, m2, m3, -, -⟩ := hm
  rw [hal] at m1 hd
  have htl : (R.take k).length = k := by rw [List.length_take]; omega
  have hlen : (R.take k ++ M ++ R.drop (k + x.length)).length = 2 * x.length := by
    rw [List.length_append, List.length_append, htl, m1, List.length_drop]; omega
  have hpl : (R.take k ++ M).length = k + x.length := by rw [List.length_append, htl, m1]
  have hpre : ∀ j, j < k + x.length + 1 → k + x.length + 1 ≤ 2 * x.length := fun _ _ => by omega
  refine ⟨by rw [List.length_set]; exact hlen, okW_set (okW_append.2 ⟨okW_append.2 ⟨okW_take h2 k, m2⟩, okW_drop h2 _⟩) m3, ?_, ?_⟩
  · have e1 : ((R.take k ++ M ++ R.drop (k + x.length)).set (k + x.length) c).take (k + 1 + x.length) = R.take k ++ M ++ [c] := by
      have e0 : k + 1 + x.length = k + x.length + 1 := by omega
      rw [e0, List.take_add_one, List.getElem?_set_self (by rw [hlen]; omega), List.take_set, List.set_eq_of_length_le (by rw [List.length_take]; omega), List.take_append_of_le_length (by omega), List.take_of_length_le (by omega)]
      rfl
    have e2 : wv (R.take (k + x.length)) = wv (R.take k) + WB ^ k * wv ((R.drop k).take x.length) := by
      have h := wv_split (R.take (k + x.length)) k (by rw [List.length_take]; omega)
      rw [List.take_take, Nat.min_eq_left (by omega), List.drop_take, Nat.add_sub_cancel_left] at h
      exact h
    rw [e1, wv_snoc, hpl, wv_append, htl, wv_take_succ hw, Nat.add_mul, ← h3, e2]
    have e3 : WB ^ k * (wv M + WB ^ x.length * c) = WB ^ k * (wv ((R.drop k).take x.length) + w * wv x) := by rw [hd]
    rw [Nat.mul_add, Nat.mul_add, ← Nat.mul_assoc (WB ^ k) (WB ^ x.length), ← Nat.pow_add] at e3
    have e4 : WB ^ k * w * wv x = WB ^ k * (w * wv x) := Nat.mul_assoc _ _ _
    rw [e4]
    omega
  · intro j hj hj2
    rw [List.getElem?_set_ne (by omega), List.getElem?_append_right (by omega), hpl, List.getElem?_drop]
    rw [show k + x.length + (j - (k + x.length)) = j by omega]
    exact h4 j (by omega) hj2
theorem SqRel.done {x R : List Nat} (h : SqRel x x.length R) : wv R = wv x * wv x := by
  obtain ⟨h1, -, h3, -⟩ := h
  rw [List.take_of_length_le (by omega), List.take_of_length_le (by omega)] at h3
  exact h3
/-- The greatest word's highest bit. -/
theorem top_bit {R : List Nat} {n t : Nat} (hl : R.length = n + 1) (ho : okW R) (ht : R[n]? = some t) : 9223372036854775808 ≤ t ↔ 9223372036854775808 * WB ^ n ≤ wv R := by
  have h := wv_split R n (by omega)
  have hd : R.drop n = [t] := by
    have h1 := (List.getElem?_eq_some_iff.1 ht).1
    rw [List.drop_eq_getElem_cons h1, List.drop_of_length_le (by omega)]
    rw [(List.getElem?_eq_some_iff.1 ht).2]
  rw [hd] at h
  have e : wv [t] = t := by simp [wv]
  rw [e] at h
  have hlt := wv_lt (okW_take ho n)
  rw [List.length_take, Nat.min_eq_left (by omega)] at hlt
  have hp := wpow_pos n
  generalize wv (R.take n) = a at *
  generalize WB ^ n = P at *
  constructor
  · intro h1
    have h2 : 9223372036854775808 * P ≤ t * P := Nat.mul_le_mul_right _ h1
    rw [h, Nat.mul_comm P t]; omega
  · intro h1
    rcases Nat.lt_or_ge t 9223372036854775808 with h2 | h2
    · exfalso
      have h3 : (t + 1) * P ≤ 9223372036854775808 * P := Nat.mul_le_mul_right _ h2
      rw [Nat.add_mul, Nat.one_mul] at h3
      rw [h, Nat.mul_comm P t] at h1
      omega
    · exact h2
/-! What the mantissa becomes. -/
def pw (R : List Nat) (i : Nat) : Nat := R[i]?.getD 0
theorem pw_at {R : List Nat} {i r : Nat} (h : R[i]? = some r) : pw R i = r := by unfold pw; rw [h]; rfl
/-- The loop of the shift: k words are done. -/
def ShRel (R : List Nat) (n k : Nat) (X : List Nat) : Prop :=
  X.length = n ∧ okW X ∧ wv (X.take k) + WB ^ k * (pw R (n + k - 1) / 9223372036854775808) = 2 * wv ((R.drop n).take k) + pw R (n - 1) / 9223372036854775808
theorem ShRel.start {R X : List Nat} {n : Nat} (h : X.length = n) (ho : okW X) : ShRel R n 0 X := by
  refine ⟨h, ho, ?_⟩
  rw [List.take_zero, List.take_zero, Nat.pow_zero, Nat.one_mul, show wv [] = 0 from rfl, Nat.add_zero]
  try omega
theorem shl_word {r p : Nat} (_ : r < WB) (hp : p < WB) : 2 * r % WB + p / 9223372036854775808 < WB ∧ WB * (r / 9223372036854775808) + 2 * r % WB = 2 * r := by
  rw [WB_eq] at *; omega
theorem ShRel.step {R X : List Nat} {n k r p : Nat} (h : ShRel R n k X) (hk : k < n) (hR : okW R) (h1 : R[n + k]? = some r) (h2 : R[n + k - 1]? = some p) :
    ShRel R n (k + 1) (X.set k (2 * r % WB + p / 9223372036854775808)) := by
  obtain ⟨a1, a2, a3⟩ := h
  obtain ⟨b1, b2⟩ := shl_word (hR r (List.mem_of_getElem? h1)) (hR p (List.mem_of_getElem? h2))
  refine ⟨by rw [List.length_set]; exact a1, okW_set a2 b1, ?_⟩
  have e1 : (X.set k (2 * r % WB + p / 9223372036854775808)).take (k + 1) = X.take k ++ [2 * r % WB + p / 9223372036854775808] := by
    rw [List.take_add_one, List.getElem?_set_self (by omega), List.take_set, List.set_eq_of_length_le (by rw [List.length_take]; omega)]
    rfl
  have hl : (X.take k).length = k := by rw [List.length_take]; omega
  have h3 : (R.drop n)[k]? = some r := by rw [List.getElem?_drop]; exact h1
  rw [e1, wv_snoc, hl, wv_take_succ h3, show n + (k + 1) - 1 = n + k by omega, pw_at h1, Nat.pow_succ]
  rw [pw_at h2] at a3
  have e2 : WB ^ k * (WB * (r / 9223372036854775808) + 2 * r % WB) = WB ^ k * (2 * r) := by rw [b2]
  rw [Nat.mul_add, ← Nat.mul_assoc (WB ^ k) WB] at e2
  rw [Nat.mul_add (WB ^ k) (2 * r % WB)]
  have e3 : WB ^ k * (2 * r) = 2 * (WB ^ k * r) := by ac_rfl
  omega
theorem WB_pow (n : Nat) (hn : 1 ≤ n) : WB ^ n = 2 * 2 ^ (64 * n - 1) := by
  rw [show WB = 2 ^ 64 from rfl, ← Nat.pow_mul, ← Nat.pow_succ']
  congr 1; omega
theorem half_WB (n : Nat) (hn : 1 ≤ n) : 9223372036854775808 * WB ^ (2 * n - 1) = 2 * 2 ^ (64 * n - 1) * 2 ^ (64 * n - 1) := by
  rw [show (9223372036854775808 : Nat) = 2 ^ 63 from rfl, show WB = 2 ^ 64 from rfl, ← Nat.pow_mul, ← Nat.pow_succ', ← Nat.pow_add, ← Nat.pow_add]
  congr 1; omega
/-- The halved square. -/
theorem sq_big {x R : List Nat} {n t : Nat} (hn : 1 ≤ n) (hx : x.length = n) (hl : R.length = 2 * n) (ho : okW R) (hv : wv R = wv x * wv x) (ht : R[2 * n - 1]? = some t) :
    (9223372036854775808 ≤ t ↔ sqB (2 ^ (64 * n - 1)) (wv x) = true) ∧ (9223372036854775808 ≤ t → wv (R.drop n) = sqM (2 ^ (64 * n - 1)) (wv x)) := by
  have h := top_bit (n := 2 * n - 1) (by omega) ho ht
  rw [half_WB n hn, hv] at h
  have hb : 9223372036854775808 ≤ t ↔ sqB (2 ^ (64 * n - 1)) (wv x) = true := by
    rw [h]; unfold sqB; simp
  refine ⟨hb, fun h1 => ?_⟩
  unfold sqM
  rw [if_pos (hb.1 h1), ← WB_pow n hn, ← hv, wv_split R n (by omega)]
  have hlt := wv_lt (okW_take ho n)
  rw [List.length_take, Nat.min_eq_left (by omega)] at hlt
  rw [Nat.add_mul_div_left _ _ (wpow_pos n), Nat.div_eq_of_lt hlt, Nat.zero_add]
/-- The square that is not halved. -/
theorem sq_small {x R X : List Nat} {n t : Nat} (hn : 1 ≤ n) (hx : x.length = n) (hl : R.length = 2 * n) (ho : okW R) (hv : wv R = wv x * wv x) (ht : R[2 * n - 1]? = some t) (h1 : t < 9223372036854775808) (h : ShRel R n n X) :
    wv X = sqM (2 ^ (64 * n - 1)) (wv x) := by
  obtain ⟨a1, a2, a3⟩ := h
  have hb := (sq_big hn hx hl ho hv ht).1
  have hb2 : sqB (2 ^ (64 * n - 1)) (wv x) = false := by
    cases hs : sqB (2 ^ (64 * n - 1)) (wv x)
    · rfl
    · have := hb.2 hs; omega
  unfold sqM
  rw [hb2]
  simp only [Bool.false_eq_true, if_false]
  rw [show n + n - 1 = 2 * n - 1 by omega, pw_at ht, Nat.div_eq_of_lt h1, Nat.mul_zero, Nat.add_zero, List.take_of_length_le (by omega), List.take_of_length_le (by rw [List.length_drop]; omega)] at a3
  obtain ⟨p, hp⟩ : ∃ p, R[n - 1]? = some p := ⟨R[n - 1]'(by omega), List.getElem?_eq_getElem (by omega)⟩
  rw [pw_at hp] at a3
  have hpW : p < WB := ho p (List.mem_of_getElem? hp)
  have hT : (R.take n).length = n := by rw [List.length_take]; omega
  have hpt : (R.take n)[n - 1]? = some p := by rw [List.getElem?_take, if_pos (by omega)]; exact hp
  have htb := top_bit (R := R.take n) (n := n - 1) (by omega) (okW_take ho n) hpt
  have hlt := wv_lt (okW_take ho n)
  rw [hT] at hlt
  have hsp := wv_split R n (by omega)
  rw [← hv, hsp, a3]
  have hWn := WB_pow n hn
  have hF : 0 < 2 ^ (64 * n - 1) := Nat.pow_pos (by omega)
  have e63 : 9223372036854775808 * WB ^ (n - 1) = 2 ^ (64 * n - 1) := by
    rw [show (9223372036854775808 : Nat) = 2 ^ 63 from rfl, show WB = 2 ^ 64 from rfl, ← Nat.pow_mul, ← Nat.pow_add]
    congr 1; omega
  rw [e63] at htb
  rw [hWn] at hlt ⊢
  generalize 2 ^ (64 * n - 1) = F at *
  generalize wv (R.take n) = a at *
  generalize wv (R.drop n) = d at *
  have e1 : a + 2 * F * d = a + F * (2 * d) := by rw [Nat.mul_comm 2 F, Nat.mul_assoc]
  rw [e1, Nat.add_mul_div_left _ _ hF, Nat.add_comm]
  congr 1
  rw [WB_eq] at hpW
  rcases Nat.lt_or_ge p 9223372036854775808 with h2 | h2
  · have h3 : a < F := by
      rcases Nat.lt_or_ge a F with h | h
      · exact h
      · have := htb.2 h; omega
    rw [Nat.div_eq_of_lt h3, Nat.div_eq_of_lt h2]
  · have h3 := htb.1 h2
    have e2 : a / F = 1 := by
      have e3 : a = F * 1 + (a - F) := by omega
      rw [e3, Nat.mul_add_div hF, Nat.div_eq_of_lt (by omega)]
    rw [e2]; omega
end Go.Proofs.YtkoghdgfllichaaDoor
namespace Go.Proofs.YtkoghdgfllichaaDoor
open Go.RowKit

/-! Rows of 64-bit words in memory. -/
def u64w (x : Nat) : Value := .int .u64 (x : Int)
/-- v holds these words. -/
def Wrd (w : World) (B : Nat) (v : Value) (l : List Nat) : Prop := SlC w B v (l.map u64w) ∧ okW l
theorem Wrd.below {w w' : World} {B : Nat} {v : Value} {l : List Nat} (h : Wrd w B v l) (hb : Below B w w') : Wrd w' B v l := ⟨h.1.below hb, h.2⟩
theorem Wrd.form {w : World} {B : Nat} {v : Value} {l : List Nat} (h : Wrd w B v l) : ∃ A cap, v = .slice A l.length cap ∧ l.length ≤ cap := by
  obtain ⟨A, cap, e, hc, _⟩ := h.1
  rw [List.length_map] at e hc
  exact ⟨A, cap, e, hc⟩
theorem wlt {l : List Nat} (h : okW l) {k x : Nat} (hx : l[k]? = some x) : x < 18446744073709551616 := h x (List.mem_of_getElem? hx)
/-- Block g holds just these words. -/
def RowW (w : World) (g : Nat) (L : List Nat) : Prop := w.heap[g]? = some (.cells (L.map u64w).toArray 145 (0, 0))
theorem RowW.cell {w : World} {g : Nat} {L : List Nat} (h : RowW w g L) {i x : Nat} (hx : L[i]? = some x) : w.cell? ⟨g, i, none⟩ = some (.int .u64 (x : Int)) := by
  rw [Go.Joins.cell_of_block h i]; simp [hx, u64w]
theorem RowW.frozen {w : World} {g : Nat} {L : List Nat} (h : RowW w g L) (i : Nat) : w.frozen? ⟨g, i, none⟩ = false := by
  have e : w.heap[g]? = some (.cells (L.map u64w).toArray 145 (0, 0)) := h
  simp [World.frozen?, e]
theorem RowW.lt {w : World} {g : Nat} {L : List Nat} (h : RowW w g L) : g < w.heap.size := (Array.getElem?_eq_some_iff.1 h).1
theorem RowW.set {w : World} {g : Nat} {L : List Nat} (h : RowW w g L) (i x : Nat) : RowW (w.setCell ⟨g, i, none⟩ (.int .u64 (x : Int))) g (L.set i x) := by
  have e : w.heap[g]? = some (.cells (L.map u64w).toArray 145 (0, 0)) := h
  show (w.setCell _ _).heap[g]? = _
  rw [List.map_set]
  simp [World.setCell, Array.getElem?_modify, e, u64w]
theorem RowW.below {w w' : World} {B g : Nat} {L : List Nat} (h : RowW w g L) (hb : Below B w w') (hg : g < B) : RowW w' g L := (hb.block g hg).trans h
theorem RowW.up {w w' : World} {g : Nat} {L : List Nat} (h : RowW w g L) (hb : Below w.heap.size w w') : RowW w' g L := h.below hb h.lt
theorem RowW.drewN {w : World} {g : Nat} {L : List Nat} (h : RowW w g L) (n : Nat) : RowW (w.drewN n) g L := h
theorem RowW.grown {w w' : World} {g k : Nat} {L : List Nat} (h : RowW w g L) (hg : w.grownBy w' (some k)) (hne : g ≠ k) : RowW w' g L :=
  (hg.block g h.lt (fun e => hne (by cases e; rfl))).trans h
theorem RowW.other {W : World} {g k i : Nat} {L : List Nat} (h : RowW W g L) (u : Value) (hne : g ≠ k) : RowW (W.setCell ⟨k, i, none⟩ u) g L := by
  show (W.setCell _ _).heap[g]? = _
  have e : W.heap[g]? = some (.cells (L.map u64w).toArray 145 (0, 0)) := h
  rw [← e]
  simp [World.setCell, Array.getElem?_modify, hne.symm]
/-- A part of the row. -/
theorem RowW.part {w : World} {g : Nat} {L : List Nat} (h : RowW w g L) (ho : okW L) (o n cap : Nat) (hn : o + n ≤ L.length) (hc : n ≤ cap) : Wrd w w.heap.size (.slice (some ⟨g, o, none⟩) n cap) ((L.drop o).take n) := by
  have hl : ((L.drop o).take n).length = n := by rw [List.length_take, List.length_drop]; omega
  refine ⟨⟨_, cap, by rw [List.length_map, hl], by rw [List.length_map, hl]; exact hc, fun _ => ⟨g, o, rfl, h.lt, ?_⟩⟩, okW_take (okW_drop ho o) n⟩
  intro k x hx
  rw [List.getElem?_map] at hx
  obtain ⟨y, hy, rfl⟩ := Option.map_eq_some_iff.1 hx
  rw [List.getElem?_take] at hy
  split at hy
  · rw [List.getElem?_drop] at hy
    exact h.cell hy
  · cases hy
theorem Tryd.infoW : (Tryd.prog.info? 145).map (fun i => (i.zero, i.size, i.bytes)) = some (some (.int .u64 0), 1, 8) := by kernel_rfl
theorem Tryd.sizeW : (Tryd.prog.info? 145).map (·.size) = some 1 := by kernel_rfl
def zerosW (n : Nat) : List Value := (List.replicate n 0).map u64w
theorem mkW (n : Nat) (hn : n ≤ 35184372088832) (w : World) :
    (Instr.makeSlice 146 (.int .i64 (n : Int)) (.int .i64 (n : Int))).run Tryd.prog w = .ok (.slice (some ⟨w.heap.size, 0, none⟩) n n) (w.alloc (.cells (zerosW n).toArray 145)) := by
  obtain ⟨i0, hi, hz0, hz1, hz2⟩ := info_parts Tryd.infoW
  have h := run_make (P := Tryd.prog) w 146 145 i0 _ Tryd.underlying146 hi hz0 .i64 .i64 n n (by omega) (by omega) (by rw [hz2]; omega) (by omega)
  simp only [Int.toNat_natCast] at h
  rw [hz1, Nat.mul_one] at h
  have e : madeCells (Value.int .u64 0).cells n = (zerosW n).toArray := by
    apply Array.toList_inj.1
    rw [show (Value.int .u64 0).cells = #[Value.int .u64 0] from rfl, toList_madeCells_one]
    simp [zerosW, u64w]
  rw [e] at h
  exact h
theorem RowW.new (w : World) (n : Nat) : RowW (w.alloc (.cells (zerosW n).toArray 145)) w.heap.size (List.replicate n 0) := heap_alloc_new w _
end Go.Proofs.YtkoghdgfllichaaDoor
