import Derived.Test.YtlmcafcebidliaaDoorKC5
import Derived.Deep.QuietTactic
import Derived.BigQuiet
namespace Go.Proofs.YtlmcafcebidliaaDoor
open Go.RowKit

def RgRel (w : World) (G M : Nat) (va vb : Value) (wr : World) : Prop := ∃ x y : Nat, va = .int .i64 (x : Int) ∧ vb = .int .i64 (y : Int) ∧ x ≤ M ∧ y ≤ M ∧ Nat.gcd x y = G ∧ Drawn w wr
set_option maxHeartbeats 1000000 in
theorem rgcd_any (a b : Nat) (w : World) (h1 : a ≤ 9000000000000000000) (h2 : b ≤ 9000000000000000000) :
    Calls Tryd.prog 58 #[.int .i64 (a : Int), .int .i64 (b : Int)] w fun e w' => e = .returned (.int .i64 ((Nat.gcd a b : Nat) : Int)) ∧ Drawn w w' := by
  obtain ⟨G, hG⟩ : ∃ G, G = Nat.gcd a b := ⟨_, rfl⟩
  rw [← hG]
  have HG := Lib.hid hG.symm
  clear hG
  go_enter Tryd.func58, Tryd.ntmps58
  go_wp2
  go_loopw [0, 1] (fun va vb wr => RgRel w G 9000000000000000000 va vb wr) (fun _ vb _ => mAbs vb)
  case atStart => exact ⟨a, b, rfl, rfl, h1, h2, HG.out, Drawn.refl w⟩
  case round =>
    obtain ⟨x, y, rfl, rfl, x1, y1, hg, hdr⟩ := hrel
    have HH := Lib.hid hg
    have HDR := Lib.hid hdr
    clear hg hdr
    by_cases hy : y = 0
    · subst hy
      have hxG : x = G := by have h := HH.out; rw [Nat.gcd_zero_right] at h; exact h
      have HX := Lib.hid hxG
      clear hxG
      go_wp2
      go_ret
      exact ⟨ret_int (by rw [HX.out]), HDR.out⟩
    · have q0 : ¬ (y : Int) = 0 := by omega
      have q1 : ((y : Int) == 0) = false := beq_false_of_ne q0
      have q2 : ((y : Int) != 0) = true := by simp [hy]
      obtain ⟨r, hr⟩ : ∃ r, r = x % y := ⟨_, rfl⟩
      have hrI : (x : Int) % (y : Int) = (r : Int) := by rw [hr]; exact (Int.natCast_emod x y).symm
      have hst : Nat.gcd y r = G := by rw [← HH.out, hr, Nat.gcd_comm x y, Nat.gcd_rec y x, Nat.gcd_comm]
      have hlt : r < y := by rw [hr]; exact Nat.mod_lt _ (by omega)
      have HST := Lib.hid hst
      clear hst hr
      go_wp2
      go_quiet (fail)
      go_wp2
      first
        | exact ⟨⟨y, r, rfl, by rw [hrI], y1, by omega, HST.out, HDR.out.trans ⟨_, rfl⟩⟩, by rw [hrI]; simp [mAbs]; omega⟩
        | (go_roundw
           case rel => exact ⟨y, r, rfl, by rw [hrI], y1, by omega, HST.out, HDR.out.trans ⟨_, rfl⟩⟩
           case measure => simp [mAbs]; omega)
def RcRel (w : World) (l : List Int) (d : Int) (gv iv : Value) (wr : World) : Prop := ∃ (i g : Nat), i ≤ 6 ∧ iv = .int .i64 (i : Int) ∧ gv = .int .i64 (g : Int) ∧ g ≤ 100000 ∧ (∀ n ∈ l.take i, fitB n = true) ∧ gl (l.drop i) g = gl l d.natAbs ∧ Drawn w wr
theorem drop_at {l : List Int} {i : Nat} {n : Int} (h : l[i]? = some n) : l.drop i = n :: l.drop (i + 1) := by
  have hi := (List.getElem?_eq_some_iff.1 h).1
  rw [List.drop_eq_getElem_cons hi]
  congr 1
  rw [List.getElem?_eq_getElem hi] at h
  exact Option.some.inj h
set_option maxRecDepth 100000 in
set_option maxHeartbeats 2000000 in
theorem rCheck_any (x0 x1 x2 x3 x4 x5 xd : Int) (w : World) : Calls Tryd.prog 39 #[.agg #[.int .i64 x0, .int .i64 x1, .int .i64 x2, .int .i64 x3, .int .i64 x4, .int .i64 x5, .int .i64 xd]] w fun e w' => e = .returned (.int .i64 (Rt.err ⟨⟨x0, x1, x2, x3, x4, x5⟩, xd⟩)) ∧ Below w.heap.size w w' := by
  have herr : Rt.err ⟨⟨x0, x1, x2, x3, x4, x5⟩, xd⟩ = if (([x0, x1, x2, x3, x4, x5].all fitB) && wiB xd 1 1000) = true then (if gl [x0, x1, x2, x3, x4, x5] xd.natAbs = 1 then 0 else 6) else 2 := by
    unfold Rt.err
    rw [fits_list]
    rfl
  have HE := Lib.hid herr
  clear herr
  generalize Rt.err ⟨⟨x0, x1, x2, x3, x4, x5⟩, xd⟩ = E at *
  have HB := Lib.hid (belA w (.cells #[.int .i64 x0, .int .i64 x1, .int .i64 x2, .int .i64 x3, .int .i64 x4, .int .i64 x5, .int .i64 xd] 40))
  have HR := Lib.hid (RowI.of_alloc w 40 [x0, x1, x2, x3, x4, x5, xd])
  by_cases hd : 1 ≤ xd ∧ xd ≤ 1000
  case neg =>
    have hE : E = 2 := by
      rw [HE.out, if_neg]
      intro h
      rw [Bool.and_eq_true] at h
      have h2 := h.2
      unfold wiB at h2
      simp only [Bool.and_eq_true, decide_eq_true_eq] at h2
      exact hd h2
    subst hE
    clear HE HR
    by_cases h1 : xd < 1
    · go_enter Tryd.func39, Tryd.ntmps39
      go_wp2
      go_ret
      exact ⟨rfl, HB.out⟩
    · have h2 : 1000 < xd := by omega
      clear hd
      go_enter Tryd.func39, Tryd.ntmps39
      go_wp2
      go_ret
      exact ⟨rfl, HB.out⟩
  obtain ⟨hd1, hd2⟩ := hd
  obtain ⟨dn, rfl⟩ := Int.eq_ofNat_of_zero_le (show 0 ≤ xd by omega)
  rw [Int.natAbs_natCast] at HE
  have hwd : wiB (dn : Int) 1 1000 = true := by unfold wiB; rw [decide_eq_true hd1, decide_eq_true hd2]; rfl
  rw [hwd, Bool.and_true] at HE
  clear hwd
  go_enter Tryd.func39, Tryd.ntmps39
  go_wp2
  have hr0 : RowI (w.alloc (.cells #[.int .i64 x0, .int .i64 x1, .int .i64 x2, .int .i64 x3, .int .i64 x4, .int .i64 x5, .int .i64 (dn : Int)] 40)) w.heap.size 40 [x0, x1, x2, x3, x4, x5, (dn : Int)] := HR.out
  have hb0 : Below w.heap.size w (w.alloc (.cells #[.int .i64 x0, .int .i64 x1, .int .i64 x2, .int .i64 x3, .int .i64 x4, .int .i64 x5, .int .i64 (dn : Int)] 40)) := HB.out
  clear HR HB
  generalize w.alloc (.cells #[.int .i64 x0, .int .i64 x1, .int .i64 x2, .int .i64 x3, .int .i64 x4, .int .i64 x5, .int .i64 (dn : Int)] 40) = W0 at *
  have HR := Lib.hid hr0
  have HB := Lib.hid hb0
  clear hr0 hb0
  go_loopw [3, 4] (fun gv iv wr => RcRel W0 [x0, x1, x2, x3, x4, x5] (dn : Int) gv iv wr) (fun _ iv _ => 6 - (intOf iv).toNat)
  case atStart => exact ⟨0, dn, Nat.zero_le _, rfl, rfl, by omega, fun n h => (by cases h), by rw [Int.natAbs_natCast]; rfl, Drawn.refl _⟩
  case round =>
    obtain ⟨i, g, hi, rfl, rfl, hg, hok, hgl, hdr⟩ := hrel
    have HOK := Lib.hid hok
    have HGL := Lib.hid hgl
    have HDR := Lib.hid hdr
    have hrw := HR.out.up hdr.below
    have HRW := Lib.hid hrw
    clear hok hgl hdr hrw
    by_cases hil : i < 6
    · obtain ⟨n, hn⟩ : ∃ n, [x0, x1, x2, x3, x4, x5][i]? = some n := ⟨[x0, x1, x2, x3, x4, x5][i], List.getElem?_eq_getElem _⟩
      have hilI : (i : Int) < 6 := by omega
      have hiI : (0 : Int) ≤ (i : Int) := by omega
      have k0 := HRW.out.cell (at7 (d := (dn : Int)) hn)
      have HDA := Lib.hid (drop_at hn)
      have HN := Lib.hid hn
      clear hn
      have hbad : fitB n = false → E = 2 := fun hf => by
        rw [HE.out, if_neg]
        intro h
        have := List.all_eq_true.1 h n (List.mem_of_getElem? HN.out)
        rw [hf] at this
        cases this
      have HBAD := Lib.hid hbad
      clear hbad
      by_cases h1 : n < -100000
      · have hE := HBAD.out (by unfold fitB; rw [decide_eq_false (by omega)]; rfl)
        subst hE
        go_wp2
        go_ret
        exact ⟨rfl, HB.out.trans (HDR.out.below.mono HB.out.size)⟩
      by_cases h2 : 100000 < n
      · have hE := HBAD.out (by unfold fitB; rw [decide_eq_false (show ¬ n ≤ 100000 by omega), Bool.and_false])
        subst hE
        go_wp2
        go_ret
        exact ⟨rfl, HB.out.trans (HDR.out.below.mono HB.out.size)⟩
      have hfit : fitB n = true := fitB_iff.2 ⟨by omega, by omega⟩
      obtain ⟨a, ha⟩ : ∃ a : Nat, (a : Int) = max n (-n) := ⟨n.natAbs, by omega⟩
      have ha2 : max n (-n) = (a : Int) := ha.symm
      have hab : a = n.natAbs := by omega
      have hal : a ≤ 100000 := by omega
      have hgc := fun W => rgcd_any g a W (by omega) (by omega)
      have hgb : Nat.gcd g a ≤ 100000 := by
        rcases Nat.eq_zero_or_pos g with h0 | h0
        · subst h0; rw [Nat.gcd_zero_left]; exact hal
        · exact Nat.le_trans (Nat.gcd_le_left _ h0) hg
      obtain ⟨q, hq⟩ : ∃ q, q = Nat.gcd g a := ⟨_, rfl⟩
      rw [← hq] at hgc hgb
      have HQ := Lib.hid hq
      have HGC := Lib.hid hgc
      have HFIT := Lib.hid hfit
      have HAB := Lib.hid hab
      clear hgc hfit hq hab ha
      go_wp2
      go_quiet ((go_at_call 58; exact Calls.quiet_of (HGC.out _)))
      go_wp2
      refine ⟨⟨i + 1, q, by omega, by go_num, rfl, hgb, ?_, ?_, HDR.out.trans ⟨_, rfl⟩⟩, by simp [intOf]; omega⟩
      · intro y hy
        rw [List.take_add_one, HN.out, List.mem_append] at hy
        rcases hy with h | h
        · exact HOK.out y h
        · simp at h; subst h; exact HFIT.out
      · rw [← HGL.out, HDA.out, HQ.out, HAB.out]
        rfl
    · obtain rfl : i = 6 := by omega
      have hall : [x0, x1, x2, x3, x4, x5].all fitB = true := List.all_eq_true.2 fun y hy => HOK.out y (by simpa using hy)
      have hg1 : g = gl [x0, x1, x2, x3, x4, x5] dn := by
        have h := HGL.out
        rw [Int.natAbs_natCast] at h
        exact h
      have hE := HE.out
      rw [if_pos hall, ← hg1] at hE
      have HE2 := Lib.hid hE
      clear hE HE hall hg1
      by_cases h1 : g = 1
      · subst h1
        have hE := HE2.out
        rw [if_pos rfl] at hE
        subst hE
        go_wp2
        go_ret
        exact ⟨rfl, HB.out.trans (HDR.out.below.mono HB.out.size)⟩
      · have hE := HE2.out
        rw [if_neg h1] at hE
        subst hE
        have h1I : ¬ (g : Int) = 1 := by omega
        go_wp2
        go_ret
        exact ⟨rfl, HB.out.trans (HDR.out.below.mono HB.out.size)⟩
end Go.Proofs.YtlmcafcebidliaaDoor
