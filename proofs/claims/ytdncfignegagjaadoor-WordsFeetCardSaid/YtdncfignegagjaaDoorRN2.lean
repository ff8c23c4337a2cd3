import Derived.Test.YtdncfignegagjaaDoorRN1
namespace Go.Proofs.YtdncfignegagjaaDoor
open Go.RowKit

def sgL : List (List UInt8) := [[98], [], [35]]
def spell (i o b : Nat) : List UInt8 := nmL.getD i [] ++ sgL.getD b [] ++ Lib.itoa ((o : Int) - 1)
def atKey (i o b : Nat) : Int := 12 * (o : Int) + (i : Int) + ((b : Int) - 1)
def Unmet (l : List UInt8) (i o b : Nat) : Prop :=
  ∀ i' o' b', i' < 12 → o' < 11 → b' < 3 → (nmL.getD i' []).length = 1 → (i' < i ∨ (i' = i ∧ (o' < o ∨ (o' = o ∧ b' < b)))) → spell i' o' b' ≠ l
theorem unmet_0 (l : List UInt8) : Unmet l 0 0 0 := fun i' o' b' _ _ _ _ h => by omega
theorem unmet_b {l : List UInt8} {i o b : Nat} (h : Unmet l i o b) (h1 : spell i o b ≠ l) : Unmet l i o (b + 1) := fun i' o' b' a1 a2 a3 a4 hl => by
  by_cases e : i' = i ∧ o' = o ∧ b' = b
  · obtain ⟨rfl, rfl, rfl⟩ := e; exact h1
  · exact h i' o' b' a1 a2 a3 a4 (by omega)
theorem unmet_o {l : List UInt8} {i o : Nat} (h : Unmet l i o 3) : Unmet l i (o + 1) 0 := fun i' o' b' a1 a2 a3 a4 hl => h i' o' b' a1 a2 a3 a4 (by omega)
theorem unmet_i {l : List UInt8} {i : Nat} (h : Unmet l i 11 0) : Unmet l (i + 1) 0 0 := fun i' o' b' a1 a2 a3 a4 hl => h i' o' b' a1 a2 a3 a4 (by omega)
theorem unmet_skip {l : List UInt8} {i : Nat} (h : Unmet l i 0 0) (h1 : (nmL.getD i []).length ≠ 1) : Unmet l (i + 1) 0 0 := fun i' o' b' a1 a2 a3 a4 hl => by
  by_cases e : i' = i
  · subst e; exact absurd a4 h1
  · exact h i' o' b' a1 a2 a3 a4 (by omega)

set_option maxRecDepth 100000 in
theorem met_all : ∀ (i : Fin 12) (o : Fin 11) (b : Fin 3), (nmL.getD i.val []).length = 1 →
    parseNoteW (spell i o b) = if 0 ≤ atKey i o b ∧ atKey i o b ≤ 127 then (atKey i o b, 0) else (0, 7) := by decide +kernel
theorem met {l : List UInt8} {i o b : Nat} (hi : i < 12) (ho : o < 11) (hb : b < 3) (h1 : (nmL.getD i []).length = 1) (h : spell i o b = l) :
    parseNoteW l = if 0 ≤ atKey i o b ∧ atKey i o b ≤ 127 then (atKey i o b, 0) else (0, 7) := by
  rw [← h]; exact met_all ⟨i, hi⟩ ⟨o, ho⟩ ⟨b, hb⟩ h1

set_option maxRecDepth 100000 in
theorem letters_all : ∀ c : Fin 7, ∃ i : Fin 12, nmL.getD i.val [] = [UInt8.ofNat (97 + c.val)] := by decide +kernel
theorem sign_all (r : List UInt8) : ∃ b, b < 3 ∧ r = sgL.getD b [] ++ (signW r).2 := by
  unfold signW
  split
  · rename_i h
    refine ⟨2, by omega, ?_⟩
    cases r with
    | nil => simp [Lib.hasPrefix] at h
    | cons c r => simp [Lib.hasPrefix] at h; subst h; simp [Lib.trimPrefix, Lib.hasPrefix, sgL]
  · split
    · rename_i h
      refine ⟨0, by omega, ?_⟩
      cases r with
      | nil => simp [Lib.hasPrefix] at h
      | cons c r => simp [Lib.hasPrefix] at h; subst h; simp [Lib.trimPrefix, Lib.hasPrefix, sgL]
    · exact ⟨1, by omega, by simp [sgL]⟩
theorem unmet_end {l : List UInt8} (h : Unmet l 12 0 0) : parseNoteW l = (0, 6) := by
  cases l with
  | nil => rfl
  | cons c r =>
    by_cases hc : c.toNat < 97 ∨ 103 < c.toNat
    · exact parseNoteW_bad rfl hc
    rw [parseNoteW_good rfl hc]
    unfold parseNoteT
    by_cases he : (intW (signW r).2 (-1) 9).2 = 0
    · exfalso
      obtain ⟨v, hv⟩ : ∃ v, intW (signW r).2 (-1) 9 = (v, 0) := ⟨(intW (signW r).2 (-1) 9).1, by rw [← he]⟩
      obtain ⟨h1, h2, h3⟩ := (intW_iff (by omega) (by omega) (by omega)).1 hv
      obtain ⟨i, hi⟩ := letters_all ⟨c.toNat - 97, by omega⟩
      obtain ⟨b, hb, hr⟩ := sign_all r
      have hcc : UInt8.ofNat (97 + (c.toNat - 97)) = c := by
        rw [show 97 + (c.toNat - 97) = c.toNat by omega]; exact UInt8.ofNat_toNat
      simp only [hcc] at hi
      refine h i.val (v + 1).toNat b i.isLt (by omega) hb (by rw [hi]; rfl) (.inl i.isLt) ?_
      unfold spell
      rw [hi, show (((v + 1).toNat : Int) - 1) = v by omega, ← h1]
      simp only [List.cons_append, List.nil_append]
      rw [← hr]
    · rw [if_pos he]

set_option maxHeartbeats 1000000 in
set_option maxRecDepth 100000 in
theorem rparseNote_any (s : ByteArray) (w : World) :
    Calls Tryd.prog 25 #[.string s] w fun e w' => e = .returned (intV (parseNoteW s.data.toList)) ∧ Below w.heap.size w w' := by
  go_enter Tryd.func25, Tryd.ntmps25
  go_wp2_with fail
  go_loopw [4] (fun i wr => ∃ k : Nat, k ≤ 12 ∧ i = .int .i64 k ∧ Unmet s.data.toList k 0 0 ∧ Below w.heap.size w wr) (fun i _ => 12 - (intOf i).toNat)
  case atStart => exact ⟨0, by omega, rfl, unmet_0 _, Below.refl _ _⟩
  case round =>
    obtain ⟨k, hk, rfl, hu, hb⟩ := hrel
    have hu1 := Lib.hid hu
    clear hu
    by_cases hlt : k < 12
    · obtain ⟨nm, hnm⟩ : ∃ nm : ByteArray, nm = ⟨(nmL.getD k []).toArray⟩ := ⟨_, rfl⟩
      have Hnm : Hid (nm.data.toList = nmL.getD k []) := Lib.hid (by rw [hnm])
      have hNA : Hid (∀ w : World, Calls Tryd.prog 52 #[] w fun e w' => e = .returned (.slice (some ⟨w.heap.size, 0, none⟩) 12 12) ∧ Below w.heap.size w w' ∧ w'.cell? ⟨w.heap.size, k, none⟩ = some (.string nm)) :=
        Lib.hid fun w => (names_any w).mono fun e w' ⟨h1, h2, h3, _⟩ => ⟨h1, h2, by rw [hnm]; exact h3 k hlt⟩
      have hki : (k : Int) < 12 := by omega
      clear hnm
      by_cases hn : nm.size = 1
      · have n1 : ((nm.size : Int) == 1) = true := beq_iff_eq.2 (by omega)
        have n2 : ((nm.size : Int) != 1) = false := by simp only [bne, n1]; rfl
        have hn1 : Hid ((nmL.getD k []).length = 1) := Lib.hid (by rw [← Hnm.out, len_eq]; exact hn)
        have hns := hn
        clear hn
        go_wp2_with (go_at_call 52; refine (hNA.out _).mono ?_; rintro e w1 ⟨rfl, hb1, hq⟩)
        have hb1 := hb.trans (hb1.mono hb.size)
        clear hq
        go_loopw [6] (fun o wr => ∃ j : Nat, j ≤ 11 ∧ o = .int .i64 ((j : Int) - 1) ∧ Unmet s.data.toList k j 0 ∧ Below w.heap.size w wr) (fun o _ => (10 - intOf o).toNat)
        case atStart => exact ⟨0, by omega, rfl, hu1.out, hb1⟩
        case round =>
          obtain ⟨j, hj, rfl, hu, hb2⟩ := hrel
          have hu2 := Lib.hid hu
          clear hu
          by_cases ho : j < 11
          · obtain ⟨at', hat⟩ : ∃ a : ByteArray, a = ⟨(Lib.itoa ((j : Int) - 1)).toArray⟩ := ⟨_, rfl⟩
            have Hat : Hid (at'.data.toList = Lib.itoa ((j : Int) - 1)) := Lib.hid (by rw [hat])
            have hats : at'.size ≤ 20 := by
              have := itoa_len20 ((j : Int) - 1) (by omega) (by omega)
              rw [← Hat.out, len_eq] at this; exact this
            have hDG : Hid (∀ w : World, Calls Tryd.prog 21 #[.int .i64 ((j : Int) - 1)] w fun e w' => e = .returned (.string at') ∧ Below w.heap.size w w') :=
              Lib.hid fun w => by rw [hat]; exact rdigits_any ((j : Int) - 1) (by omega) (by omega) w
            clear hat
            have ho1 : (j : Int) - 1 ≤ 9 := by omega
            go_wp2_with (go_at_call 21; refine (hDG.out _).mono ?_; rintro e w2 ⟨rfl, hb3⟩)
            have hb3 := hb2.trans (hb3.mono hb2.size)
            go_loopw [8] (fun b wr => ∃ m : Nat, m ≤ 3 ∧ b = .int .i64 ((m : Int) - 1) ∧ Unmet s.data.toList k j m ∧ Below w.heap.size w wr) (fun b _ => (2 - intOf b).toNat)
            case atStart => exact ⟨0, by omega, rfl, hu2.out, hb3⟩
            case round =>
              clear hb3
              obtain ⟨m, hm, rfl, hu, hb3⟩ := hrel
              have hu3 := Lib.hid hu
              clear hu
              rcases (by omega : m = 0 ∨ m = 1 ∨ m = 2 ∨ m = 3) with rfl | rfl | rfl | rfl
              · have hspell : Hid (spell k j 0 = ((nm ++ ⟨#[98]⟩) ++ at').data.toList) := Lib.hid (by
                  unfold spell; rw [bapp, bapp, Hat.out, Hnm.out]; rfl)
                by_cases heq : ((nm ++ ⟨#[98]⟩) ++ at').data.toList = s.data.toList
                · have c1 : (((nm ++ ⟨#[98]⟩) ++ at').toList == s.toList) = true := by rw [toList_beq, toL]; simp only [decide_eq_true_eq]; exact heq
                  have c2 : (((nm ++ ⟨#[98]⟩) ++ at').toList != s.toList) = false := by simp only [bne, c1]; rfl
                  have hm := Lib.hid (met hlt ho (by omega) hn1.out (hspell.out.trans heq))
                  clear heq
                  by_cases hr : 0 ≤ atKey k j 0 ∧ atKey k j 0 ≤ 127
                  · have hf := Lib.hid (show parseNoteW s.data.toList = (atKey k j 0, 0) by rw [hm.out, if_pos hr])
                    unfold atKey at hr
                    have r1 := hr.1
                    have r2 := hr.2
                    clear hr
                    go_wp2
                    go_ret2
                    exact ⟨ret_intV (by rw [hf.out]; unfold atKey; first | rfl | (congr 1; omega)), hb3.alloc hb3.size _⟩
                  · have hf := Lib.hid (show parseNoteW s.data.toList = (0, 7) by rw [hm.out, if_neg hr])
                    unfold atKey at hr
                    by_cases r1 : 12 * (j : Int) + (k : Int) + (0 - 1) < 0
                    · clear hr
                      go_wp2
                      go_ret2
                      exact ⟨ret_intV hf.out, hb3.alloc hb3.size _⟩
                    · have r2 : 127 < 12 * (j : Int) + (k : Int) + (0 - 1) := by omega
                      clear hr
                      go_wp2
                      go_ret2
                      exact ⟨ret_intV hf.out, hb3.alloc hb3.size _⟩
                · have c1 : (((nm ++ ⟨#[98]⟩) ++ at').toList == s.toList) = false := by rw [toList_beq, toL]; simp only [decide_eq_false_iff_not]; exact heq
                  have c2 : (((nm ++ ⟨#[98]⟩) ++ at').toList != s.toList) = true := by simp only [bne, c1]; rfl
                  have hun := Lib.hid (unmet_b hu3.out (fun e => heq (hspell.out.symm.trans e)))
                  clear heq
                  go_wp2
                  go_roundw
                  case rel => exact ⟨0 + 1, by omega, by go_num, hun.out, hb3.alloc hb3.size _⟩
                  case measure => simp [intOf]
              · have hspell : Hid (spell k j 1 = ((nm ++ ⟨#[]⟩) ++ at').data.toList) := Lib.hid (by
                  unfold spell; rw [bapp, bapp, Hat.out, Hnm.out]; rfl)
                by_cases heq : ((nm ++ ⟨#[]⟩) ++ at').data.toList = s.data.toList
                · have c1 : (((nm ++ ⟨#[]⟩) ++ at').toList == s.toList) = true := by rw [toList_beq, toL]; simp only [decide_eq_true_eq]; exact heq
                  have c2 : (((nm ++ ⟨#[]⟩) ++ at').toList != s.toList) = false := by simp only [bne, c1]; rfl
                  have hm := Lib.hid (met hlt ho (by omega) hn1.out (hspell.out.trans heq))
                  clear heq
                  by_cases hr : 0 ≤ atKey k j 1 ∧ atKey k j 1 ≤ 127
                  · have hf := Lib.hid (show parseNoteW s.data.toList = (atKey k j 1, 0) by rw [hm.out, if_pos hr])
                    unfold atKey at hr
                    have r1 := hr.1
                    have r2 := hr.2
                    clear hr
                    go_wp2
                    go_ret2
                    exact ⟨ret_intV (by rw [hf.out]; unfold atKey; first | rfl | (congr 1; omega)), hb3.alloc hb3.size _⟩
                  · have hf := Lib.hid (show parseNoteW s.data.toList = (0, 7) by rw [hm.out, if_neg hr])
                    unfold atKey at hr
                    by_cases r1 : 12 * (j : Int) + (k : Int) + (1 - 1) < 0
                    · exact absurd r1 (by omega)
                    · have r2 : 127 < 12 * (j : Int) + (k : Int) + (1 - 1) := by omega
                      clear hr
                      go_wp2
                      go_ret2
                      exact ⟨ret_intV hf.out, hb3.alloc hb3.size _⟩
                · have c1 : (((nm ++ ⟨#[]⟩) ++ at').toList == s.toList) = false := by rw [toList_beq, toL]; simp only [decide_eq_false_iff_not]; exact heq
                  have c2 : (((nm ++ ⟨#[]⟩) ++ at').toList != s.toList) = true := by simp only [bne, c1]; rfl
                  have hun := Lib.hid (unmet_b hu3.out (fun e => heq (hspell.out.symm.trans e)))
                  clear heq
                  go_wp2
                  go_roundw
                  case rel => exact ⟨1 + 1, by omega, by go_num, hun.out, hb3.alloc hb3.size _⟩
                  case measure => simp [intOf]
              · have hspell : Hid (spell k j 2 = ((nm ++ ⟨#[35]⟩) ++ at').data.toList) := Lib.hid (by
                  unfold spell; rw [bapp, bapp, Hat.out, Hnm.out]; rfl)
                by_cases heq : ((nm ++ ⟨#[35]⟩) ++ at').data.toList = s.data.toList
                · have c1 : (((nm ++ ⟨#[35]⟩) ++ at').toList == s.toList) = true := by rw [toList_beq, toL]; simp only [decide_eq_true_eq]; exact heq
                  have c2 : (((nm ++ ⟨#[35]⟩) ++ at').toList != s.toList) = false := by simp only [bne, c1]; rfl
                  have hm := Lib.hid (met hlt ho (by omega) hn1.out (hspell.out.trans heq))
                  clear heq
                  by_cases hr : 0 ≤ atKey k j 2 ∧ atKey k j 2 ≤ 127
                  · have hf := Lib.hid (show parseNoteW s.data.toList = (atKey k j 2, 0) by rw [hm.out, if_pos hr])
                    unfold atKey at hr
                    have r1 := hr.1
                    have r2 := hr.2
                    clear hr
                    go_wp2
                    go_ret2
                    exact ⟨ret_intV (by rw [hf.out]; unfold atKey; first | rfl | (congr 1; omega)), hb3.alloc hb3.size _⟩
                  · have hf := Lib.hid (show parseNoteW s.data.toList = (0, 7) by rw [hm.out, if_neg hr])
                    unfold atKey at hr
                    by_cases r1 : 12 * (j : Int) + (k : Int) + (2 - 1) < 0
                    · exact absurd r1 (by omega)
                    · have r2 : 127 < 12 * (j : Int) + (k : Int) + (2 - 1) := by omega
                      clear hr
                      go_wp2
                      go_ret2
                      exact ⟨ret_intV hf.out, hb3.alloc hb3.size _⟩
                · have c1 : (((nm ++ ⟨#[35]⟩) ++ at').toList == s.toList) = false := by rw [toList_beq, toL]; simp only [decide_eq_false_iff_not]; exact heq
                  have c2 : (((nm ++ ⟨#[35]⟩) ++ at').toList != s.toList) = true := by simp only [bne, c1]; rfl
                  have hun := Lib.hid (unmet_b hu3.out (fun e => heq (hspell.out.symm.trans e)))
                  clear heq
                  go_wp2
                  go_roundw
                  case rel => exact ⟨2 + 1, by omega, by go_num, hun.out, hb3.alloc hb3.size _⟩
                  case measure => simp [intOf]
              · have hun := Lib.hid (unmet_o hu3.out)
                go_wp2
                go_roundw
                case rel => exact ⟨j + 1, by omega, by go_num, hun.out, hb3⟩
                case measure => simp [intOf]; omega
          · obtain rfl : j = 11 := by omega
            have hun := Lib.hid (unmet_i hu2.out)
            go_wp2
            go_roundw
            case rel => exact ⟨k + 1, by omega, by go_num, hun.out, hb2⟩
            case measure => simp [intOf]; omega
      · have n1 : ((nm.size : Int) == 1) = false := beq_false_of_ne (by omega)
        have n2 : ((nm.size : Int) != 1) = true := by simp only [bne, n1]; rfl
        have hun := Lib.hid (unmet_skip hu1.out (by rw [← Hnm.out, len_eq]; exact hn))
        clear hn
        go_wp2_with (go_at_call 52; refine (hNA.out _).mono ?_; rintro e w1 ⟨rfl, hb1, hq⟩)
        go_roundw
        case rel => exact ⟨k + 1, by omega, by go_num, hun.out, hb.trans (hb1.mono hb.size)⟩
        case measure => simp [intOf]; omega
    · obtain rfl : k = 12 := by omega
      have hf := Lib.hid (unmet_end hu1.out)
      go_wp2
      go_ret2
      exact ⟨ret_intV hf.out, hb⟩
end Go.Proofs.YtdncfignegagjaaDoor
