import Derived.Test.YtdncfignegagjaaDoorRQ2
import Derived.Test.YtdncfignegagjaaDoorL3
namespace Go.Proofs.YtdncfignegagjaaDoor
open Go.RowKit

def rightB (x : Fld) : Bool := if x.1 then textB x.2 else bareB x.2

def goodC (c : UInt8) : Bool := !decide ((c.toNat : Int) = 32) && !decide ((c.toNat : Int) = 34)
theorem index34 (l : List UInt8) : (!decide (0 ≤ Lib.indexByte l 34)) = l.all (fun c => !decide ((c.toNat : Int) = 34)) := by
  apply Bool.eq_iff_iff.2
  simp only [Bool.not_eq_true', decide_eq_false_iff_not, List.all_eq_true]
  constructor
  · intro h c hc e
    have hg := Lib.indexByte_ge l 34
    have h1 : Lib.indexByte l 34 = -1 := by omega
    obtain ⟨k, hk, rfl⟩ := List.mem_iff_getElem.1 hc
    refine Lib.indexByte_none h1 k ?_
    rw [List.getElem?_eq_getElem hk]
    congr 1
    exact u8_34 e
  · intro h h0
    obtain ⟨o, ho⟩ : ∃ o : Nat, Lib.indexByte l 34 = o := ⟨(Lib.indexByte l 34).toNat, by omega⟩
    have h1 := (Lib.indexByte_some ho).1
    obtain ⟨hl, he⟩ := List.getElem?_eq_some_iff.1 h1
    refine h _ (List.getElem_mem hl) ?_
    rw [he]; rfl
theorem inR_split (l : List UInt8) : inR 33 126 l = (inR 32 126 l && l.all (fun c => !decide ((c.toNat : Int) = 32))) := by
  induction l with
  | nil => rfl
  | cons c r ih =>
    unfold inR at ih ⊢
    rw [List.all_cons, List.all_cons, List.all_cons, ih]
    apply Bool.eq_iff_iff.2
    simp only [Bool.and_eq_true, decide_eq_true_eq, Bool.not_eq_true', decide_eq_false_iff_not]
    constructor
    · rintro ⟨⟨h1, h2⟩, h3, h4⟩; exact ⟨⟨⟨by omega, h2⟩, h3⟩, by omega, h4⟩
    · rintro ⟨⟨⟨h1, h2⟩, h3⟩, h4, h5⟩; exact ⟨⟨by omega, h2⟩, h3, h5⟩
theorem good_all (l : List UInt8) : l.all goodC = (l.all (fun c => !decide ((c.toNat : Int) = 32)) && l.all (fun c => !decide ((c.toNat : Int) = 34))) := by
  induction l with
  | nil => rfl
  | cons c r ih =>
    rw [List.all_cons, List.all_cons, List.all_cons, ih]
    unfold goodC
    generalize (!decide ((c.toNat : Int) = 32)) = a
    generalize (!decide ((c.toNat : Int) = 34)) = b
    generalize r.all (fun c => !decide ((c.toNat : Int) = 32)) = d
    generalize r.all (fun c => !decide ((c.toNat : Int) = 34)) = e
    cases a <;> cases b <;> cases d <;> cases e <;> rfl
theorem bare_text {l : List UInt8} (h : l ≠ []) : bareB l = (l.all goodC && textB l) := by
  unfold bareB textB
  rw [index34, inR_split, good_all, decide_eq_true h]
  generalize decide (l.length ≤ 200) = x
  generalize inR 32 126 l = y
  generalize l.all (fun c => !decide ((c.toNat : Int) = 32)) = d
  generalize l.all (fun c => !decide ((c.toNat : Int) = 34)) = e
  cases x <;> cases y <;> cases d <;> cases e <;> rfl

set_option maxHeartbeats 1000000 in
theorem rright_any (q : Bool) (s : ByteArray) (w : World) (hs : s.size ≤ maxLen) :
    Calls Tryd.prog 61 #[.agg #[.bool q, .string s]] w fun e w' => e = .returned (.bool (rightB (q, s.data.toList))) ∧ Below w.heap.size w w' := by
  have hb0 : Below w.heap.size w (w.alloc (.cells #[.bool q, .string s] 61)) := (Below.refl _ _).alloc (Nat.le_refl _) _
  cases q
  · by_cases h0 : s.size = 0
    · have c1 : ((s.size : Int) == 0) = true := beq_iff_eq.2 (by omega)
      have hf := Lib.hid (show rightB (false, s.data.toList) = false by
        show bareB s.data.toList = false
        unfold bareB; rw [← toL, empty_yes s h0]; rfl)
      go_enter Tryd.func61, Tryd.ntmps61
      go_wp2_with fail
      go_ret
      exact ⟨ret_bool hf.out.symm, hb0⟩
    have c1 : ((s.size : Int) == 0) = false := beq_false_of_ne (by omega)
    have hf := Lib.hid (show rightB (false, s.data.toList) = (s.data.toList.all goodC && textB s.data.toList) from bare_text (by rw [← toL]; exact empty_no s (by omega)))
    have hs0 := hs
    unfold maxLen at hs
    go_enter Tryd.func61, Tryd.ntmps61
    go_wp2_with fail
    go_loop [3] (fun i => ∃ k : Nat, k ≤ s.size ∧ i = .int .i64 k ∧ (s.data.toList.take k).all goodC = true) (fun i => s.size - (intOf i).toNat)
    case atStart => exact ⟨0, Nat.zero_le _, rfl, rfl⟩
    case round =>
      obtain ⟨k, hk, rfl, hr⟩ := hrel
      have Hr := Lib.hid hr
      clear hr
      by_cases hlt : k < s.size
      · by_cases h32 : (s[k].toNat : Int) = 32
        · have q1 : ((s[k].toNat : Int) == 32) = true := by simp [h32]
          have hg := Lib.hid (all_false goodC s k hlt (by simp [goodC, h32]))
          clear h32
          go_wp2
          go_ret
          exact ⟨ret_bool (by rw [hf.out, hg.out]; rfl), hb0⟩
        · have q1 : ((s[k].toNat : Int) == 32) = false := by simp [h32]
          by_cases h34 : (s[k].toNat : Int) = 34
          · have q2 : ((s[k].toNat : Int) == 34) = true := by simp [h34]
            have hg := Lib.hid (all_false goodC s k hlt (by simp [goodC, h34]))
            clear h32 h34
            go_wp2
            go_ret
            exact ⟨ret_bool (by rw [hf.out, hg.out]; rfl), hb0⟩
          · have q2 : ((s[k].toNat : Int) == 34) = false := by simp [h34]
            have hg := Lib.hid (all_take_succ goodC s k hlt Hr.out (by simp [goodC, h32, h34]))
            clear h32 h34
            go_wp2
            go_round
            case rel => exact ⟨k + 1, by omega, by go_num, hg.out⟩
            case measure => simp [intOf]; omega
      · have hall := Hr.out
        rw [List.take_of_length_le (by simp; omega)] at hall
        have Hall := Lib.hid hall
        clear hall
        go_wp2_with fail
        refine (rtext_any s _ hs0).mono ?_
        rintro e w' ⟨rfl, rfl⟩
        go_wp2_with fail
        go_ret
        exact ⟨ret_bool (by rw [hf.out, Hall.out]; rfl), hb0⟩
  · have hf := Lib.hid (show rightB (true, s.data.toList) = textB s.data.toList from rfl)
    go_enter Tryd.func61, Tryd.ntmps61
    go_wp2_with fail
    refine (rtext_any s _ hs).mono ?_
    rintro e w' ⟨rfl, rfl⟩
    go_wp2_with fail
    go_ret
    exact ⟨ret_bool hf.out.symm, hb0⟩
end Go.Proofs.YtdncfignegagjaaDoor
