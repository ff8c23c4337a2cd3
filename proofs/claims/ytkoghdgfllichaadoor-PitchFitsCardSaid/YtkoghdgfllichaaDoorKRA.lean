import Derived.Test.YtkoghdgfllichaaDoorKC5
import Derived.Deep.QuietTactic
import Derived.BigQuiet
namespace Go.Proofs.YtkoghdgfllichaaDoor
open Go.RowKit

def RgRel (w : World) (G M : Nat) (va vb : Value) (wr : World) : Prop := ∃ x y : Nat, va = .int .i64 (x : Int) ∧ vb = .int .i64 (y : Int) ∧ x ≤ M ∧ y ≤ M ∧ Nat.gcd x y = G ∧ Drawn w wr
set_option maxHeartbeats 1000000 in
theorem rgcd_any (a b : Nat) (w : World) (h1 : a ≤ 9000000000000000000) (h2 : b ≤ 9000000000000000000) :
    Calls Tryd.prog 72 #[.int .i64 (a : Int), .int .i64 (b : Int)] w fun e w' => e = .returned (.int .i64 ((Nat.gcd a b : Nat) : Int)) ∧ Drawn w w' := by
  obtain ⟨G, hG⟩ : ∃ G, G = Nat.gcd a b := ⟨_, rfl⟩
  rw [← hG]
  have HG := Lib.hid hG.symm
  clear hG
  go_enter Tryd.func72, Tryd.ntmps72
  go_wp2
  go_loopw [0, 1] (fun va vb wr => RgRel w G 9000000000000000000 va vb wr) (fun _ vb _ => mAbs vb)
  case atStart => exact ⟨a, b, rfl, rfl, h1, h2, HG.out, Drawn.refl w⟩
  case round =>
    obtain ⟨x, y, rfl, rfl, x1, y1, hg, hdr⟩ := hrel
    have HH := Lib.hid hg
    have HDR := Lib.hid hdr
    clear hg hdr
    by_cases hy : y = 0
    · subst hy
      have hxG : x = G := by have h := HH.out; rw [Nat.gcd_zero_right] at h; exact h
      have HX := Lib.hid hxG
      clear hxG
      go_wp2
      go_ret
      exact ⟨ret_int (by rw [HX.out]), HDR.out⟩
    · have q0 : ¬ (y : Int) = 0 := by omega
      have q1 : ((y : Int) == 0) = false := beq_false_of_ne q0
      have q2 : ((y : Int) != 0) = true := by simp [hy]
      obtain ⟨r, hr⟩ : ∃ r, r = x % y := ⟨_, rfl⟩
      have hrI : (x : Int) % (y : Int) = (r : Int) := by rw [hr]; exact (Int.natCast_emod x y).symm
      have hst : Nat.gcd y r = G := by rw [← HH.out, hr, Nat.gcd_comm x y, Nat.gcd_rec y x, Nat.gcd_comm]
      have hlt : r < y := by rw [hr]; exact Nat.mod_lt _ (by omega)
      have HST := Lib.hid hst
      clear hst hr
      go_wp2
      go_quiet (fail)
      go_wp2
      first
        | exact ⟨⟨y, r, rfl, by rw [hrI], y1, by omega, HST.out, HDR.out.trans ⟨_, rfl⟩⟩, by rw [hrI]; simp [mAbs]; omega⟩
        | (go_roundw
           case rel => exact ⟨y, r, rfl, by rw [hrI], y1, by omega, HST.out, HDR.out.trans ⟨_, rfl⟩⟩
           case measure => simp [mAbs]; omega)
def RcRel (w : World) (l : List Int) (d : Int) (gv iv : Value) (wr : World) : Prop := ∃ (i g : Nat), i ≤ 6 ∧ iv = .int .i64 (i : Int) ∧ gv = .int .i64 (g : Int) ∧ g ≤ 100000 ∧ (∀ n ∈ l.take i, fitB n = true) ∧ gl (l.drop i) g = gl l d.natAbs ∧ Drawn w wr
theorem drop_at {l : List Int} {i : Nat} {n : Int} (h : l[i]? = some n) : l.drop i = n :: l.drop (i + 1) := by
  have hi := (List.getElem?_eq_some_iff.1 h).1
  rw [List.drop_eq_getElem_cons hi]
  congr 1
  rw [List.getElem?_eq_getElem hi] at h
  exact Option.some.inj h
set_option maxRecDepth 100000 in
set_option maxHeartbeats 2000000 in
theorem rCheck_any (x0 x1 x2 x3 x4 x5 xd : Int) (w : World) : Calls Tryd.prog 35 #[.agg #[.int .i64 x0, .int .i64 x1, .int .i64 x2, .int .i64 x3, .int .i64 x4, .int .i64 x5, .int .i64 xd]] w fun e w' => e = .returned (.int .i64 (Rt.err ⟨⟨x0, x1, x2, x3, x4, x5⟩, xd⟩)) ∧ Below w.heap.size w w' := by
  have herr : Rt.err ⟨⟨x0, x1, x2, x3, x4, x5⟩, xd⟩ = if (([x0, x1, x2, x3, x4, x5].all fitB) && wiB xd 1 1000) = true then (if gl [x0, x1, x2, x3, x4, x5] xd.natAbs = 1 then 0 else 6) else 2 := by
    unfold Rt.err
    rw [fits_list]
    rfl
  have HE := Lib.hid herr
  clear herr
  generalize Rt.err ⟨⟨x0, x1, x2, x3, x4, x5⟩, xd⟩ = E at *
  have HB := Lib.hid (belA w (.cells #[.int .i64 x0, .int .i64 x1, .int .i64 x2, .int .i64 x3, .int .i64 x4, .int .i64 x5, .int .i64 xd] 24))
  have HR := Lib.hid (RowI.of_alloc w 24 [x0, x1, x2, x3, x4, x5, xd])
  by_cases hd : 1 ≤ xd ∧ xd ≤ 1000
  case neg =>
    have hE : E = 2 := by
      rw [HE.out, if_neg]
      intro h
      rw [Bool.and_eq_true] at h
      have h2 := h.2
      unfold wiB at h2
      simp only [Bool.and_eq_true, decide_eq_true_eq] at h2
      exact hd h2
    subst hE
    clear HE HR
    by_cases h1 : xd < 1
    · go_enter Tryd.func35, Tryd.ntmps35
      go_wp2
      go_ret
      exact ⟨rfl, HB.out⟩
    · have h2 : 1000 < xd := by omega
      clear hd
      go_enter Tryd.func35, Tryd.ntmps35
      go_wp2
      go_ret
      exact ⟨rfl, HB.out⟩
  obtain ⟨hd1, hd2⟩ := hd
  obtain ⟨dn, rfl⟩ := Int.eq_ofNat_of_zero_le (show 0 ≤ xd by omega)
  rw [Int.natAbs_natCast] at HE
  have hwd : wiB (dn : Int) 1 1000 = true := by unfold wiB; rw [decide_eq_true hd1, decide_eq_true hd2]; rfl
  rw [hwd, Bool.and_true] at HE
  clear hwd
  go_enter Tryd.func35, Tryd.ntmps35
  go_wp2
  have hr0 : RowI (w.alloc (.cells #[.int .i64 x0, .int .i64 x1, .int .i64 x2, .int .i64 x3, .int .i64 x4, .int .i64 x5, .int .i64 (dn : Int)] 24)) w.heap.size 24 [x0, x1, x2, x3, x4, x5, (dn : Int)] := HR.out
  have hb0 : Below w.heap.size w (w.alloc (.cells #[.int .i64 x0, .int .i64 x1, .int .i64 x2, .int .i64 x3, .int .i64 x4, .int .i64 x5, .int .i64 (dn : Int)] 24)) := HB.out
  clear HR HB
  generalize w.alloc (.cells #[.int .i64 x0, .int .i64 x1, .int .i64 x2, .int .i64 x3, .int .i64 x4, .int .i64 x5, .int .i64 (dn : Int)] 24) = W0 at *
  have HR := Lib.hid hr0
  have HB := Lib.hid hb0
  clear hr0 hb0
  go_loopw [3, 4] (fun gv iv wr => RcRel W0 [x0, x1, x2, x3, x4, x5] (dn : Int) gv iv wr) (fun _ iv _ => 6 - (intOf iv).toNat)
  case atStart => exact ⟨0, dn, Nat.zero_le _, rfl, rfl, by omega, fun n h => (by cases h), by rw [Int.natAbs_natCast]; rfl, Drawn.refl _⟩
  case round =>
    obtain ⟨i, g, hi, rfl, rfl, hg, hok, hgl, hdr⟩ := hrel
    have HOK := Lib.hid hok
    have HGL := Lib.hid hgl
    have HDR := Lib.hid hdr
    have hrw := HR.out.up hdr.below
    have HRW := Lib.hid hrw
    clear hok hgl hdr hrw
    by_cases hil : i < 6
    · obtain ⟨n, hn⟩ : ∃ n, [x0, x1, x2, x3, x4, x5][i]? = some n := ⟨[x0, x1, x2, x3, x4, x5][i], List.getElem?_eq_getElem _⟩
      have hilI : (i : Int) < 6 := by omega
      have hiI : (0 : Int) ≤ (i : Int) := by omega
      have k0 := HRW.out.cell (at7 (d := (dn : Int)) hn)
      have HDA := Lib.hid (drop_at hn)
      have HN := Lib.hid hn
      clear hn
      have hbad : fitB n = false → E = 2 := fun hf => by
        rw [HE.out, if_neg]
        intro h
        have := List.all_eq_true.1 h n (List.mem_of_getElem? HN.out)
        rw [hf] at this
        cases this
      have HBAD := Lib.hid hbad
      clear hbad
      by_cases h1 : n < -100000
      · have hE := HBAD.out (by unfold fitB; rw [decide_eq_false (by omega)]; rfl)
        subst hE
        go_wp2
        go_ret
        exact ⟨rfl, HB.out.trans (HDR.out.below.mono HB.out.size)⟩
      by_cases h2 : 100000 < n
      · have hE := HBAD.out (by unfold fitB; rw [decide_eq_false (show ¬ n ≤ 100000 by omega), Bool.and_false])
        subst hE
        go_wp2
        go_ret
        exact ⟨rfl, HB.out.trans (HDR.out.below.mono HB.out.size)⟩
      have hfit : fitB n = true := fitB_iff.2 ⟨by omega, by omega⟩
      obtain ⟨a, ha⟩ : ∃ a : Nat, (a : Int) = max n (-n) := ⟨n.natAbs, by omega⟩
      have ha2 : max n (-n) = (a : Int) := ha.symm
      have hab : a = n.natAbs := by omega
      have hal : a ≤ 100000 := by omega
      have hgc := fun W => rgcd_any g a W (by omega) (by omega)
      have hgb : Nat.gcd g a ≤ 100000 := by
        rcases Nat.eq_zero_or_pos g with h0 | h0
        · subst h0; rw [Nat.gcd_zero_left]; exact hal
        · exact Nat.le_trans (Nat.gcd_le_left _ h0) hg
      obtain ⟨q, hq⟩ : ∃ q, q = Nat.gcd g a := ⟨_, rfl⟩
      rw [← hq] at hgc hgb
      have HQ := Lib.hid hq
      have HGC := Lib.hid hgc
      have HFIT := Lib.hid hfit
      have HAB := Lib.hid hab
      clear hgc hfit hq hab ha
      go_wp2
      go_quiet ((go_at_call 72; exact Calls.quiet_of (HGC.out _)))
      go_wp2
      refine ⟨⟨i + 1, q, by omega, by go_num, rfl, hgb, ?_, ?_, HDR.out.trans ⟨_, rfl⟩⟩, by simp [intOf]; omega⟩
      · intro y hy
        rw [List.take_add_one, HN.out, List.mem_append] at hy
        rcases hy with h | h
        · exact HOK.out y h
        · simp at h; subst h; exact HFIT.out
      · rw [← HGL.out, HDA.out, HQ.out, HAB.out]
        rfl
    · obtain rfl : i = 6 := by omega
      have hall : [x0, x1, x2, x3, x4, x5].all fitB = true := List.all_eq_true.2 fun y hy => HOK.out y (by simpa using hy)
      have hg1 : g = gl [x0, x1, x2, x3, x4, x5] dn := by
        have h := HGL.out
        rw [Int.natAbs_natCast] at h
        exact h
      have hE := HE.out
      rw [if_pos hall, ← hg1] at hE
      have HE2 := Lib.hid hE
      clear hE HE hall hg1
      by_cases h1 : g = 1
      · subst h1
        have hE := HE2.out
        rw [if_pos rfl] at hE
        subst hE
        go_wp2
        go_ret
        exact ⟨rfl, HB.out.trans (HDR.out.below.mono HB.out.size)⟩
      · have hE := HE2.out
        rw [if_neg h1] at hE
        subst hE
        have h1I : ¬ (g : Int) = 1 := by omega
        go_wp2
        go_ret
        exact ⟨rfl, HB.out.trans (HDR.out.below.mono HB.out.size)⟩
end Go.Proofs.YtkoghdgfllichaaDoor
namespace Go.Proofs.YtkoghdgfllichaaDoor
open Go.RowKit

def MaRel (W0 : World) (l : List Int) (d : Nat) (gv iv : Value) (wr : World) : Prop := ∃ (i g : Nat), i ≤ 6 ∧ iv = .int .i64 (i : Int) ∧ gv = .int .i64 (g : Int) ∧ 1 ≤ g ∧ g ≤ 1000000000 ∧ gl (l.drop i) g = gl l d ∧ Drawn W0 wr
def MbRel (w W1 : World) (B2 : Nat) (X Q : List Int) (iv : Value) (wr : World) : Prop := ∃ i : Nat, i ≤ 6 ∧ iv = .int .i64 (i : Int) ∧ (∀ n ∈ Q.take i, fitB n = true) ∧
  RowI wr w.heap.size 80 X ∧ RowI wr (w.heap.size + 1) 24 [0, 0, 0, 0, 0, 0, 0] ∧ RowI wr B2 24 (mixL Q zero6 i ++ [0]) ∧ Below w.heap.size w wr
set_option maxRecDepth 100000 in
set_option maxHeartbeats 2000000 in
theorem made_any (x0 x1 x2 x3 x4 x5 : Int) (d : Nat) (w : World) (hd1 : 1 ≤ d) (hd2 : d ≤ 1000000000) (hx : ∀ n ∈ [x0, x1, x2, x3, x4, x5], -1000000000 ≤ n ∧ n ≤ 1000000000) :
    Calls Tryd.prog 42 #[.agg #[.int .i64 x0, .int .i64 x1, .int .i64 x2, .int .i64 x3, .int .i64 x4, .int .i64 x5], .int .i64 (d : Int)] w (RtPost w (lowW ⟨x0, x1, x2, x3, x4, x5⟩ (d : Int))) := by
  obtain ⟨G, hG⟩ : ∃ G, G = gl [x0, x1, x2, x3, x4, x5] d := ⟨_, rfl⟩
  have hgs : V6.gs ⟨x0, x1, x2, x3, x4, x5⟩ (d : Int) = (G : Int) := by
    unfold V6.gs
    rw [if_neg (by omega)]
    unfold V6.g
    rw [Int.natAbs_natCast, hG]
    rfl
  have hgp : 0 < G := by rw [hG]; exact gl_pos (by omega)
  have hgd : G ∣ d := by rw [hG]; exact (gl_dvd _ _).1
  obtain ⟨e, he⟩ : ∃ e : Nat, e = d / G := ⟨_, rfl⟩
  have he1 : 1 ≤ e := by rw [he]; exact Nat.div_pos (Nat.le_of_dvd (by omega) hgd) hgp
  have hed : e ≤ d := by rw [he]; exact Nat.div_le_self _ _
  have heI : (d : Int) / (G : Int) = (e : Int) := by rw [he]; exact (Int.natCast_ediv d G).symm
  have het : (d : Int).tdiv (G : Int) = (e : Int) := by rw [he]; exact (Int.ofNat_tdiv d G).symm
  have hGd : G ≤ d := Nat.le_of_dvd (by omega) hgd
  have hW : lowW ⟨x0, x1, x2, x3, x4, x5⟩ (d : Int) = if Rt.fits ⟨⟨x0.tdiv (G : Int), x1.tdiv (G : Int), x2.tdiv (G : Int), x3.tdiv (G : Int), x4.tdiv (G : Int), x5.tdiv (G : Int)⟩, (e : Int)⟩ = true then (⟨⟨x0.tdiv (G : Int), x1.tdiv (G : Int), x2.tdiv (G : Int), x3.tdiv (G : Int), x4.tdiv (G : Int), x5.tdiv (G : Int)⟩, (e : Int)⟩, 0) else (Rt.zero, 7) := by
    unfold lowW lowR
    rw [hgs, het]
    rfl
  generalize lowW ⟨x0, x1, x2, x3, x4, x5⟩ (d : Int) = RW at *
  have HW := Lib.hid hW
  have HG := Lib.hid hG
  have HX := Lib.hid hx
  clear hW hgs hgd he het hx hG
  go_enter Tryd.func42, Tryd.ntmps42
  go_wp2
  have hr1 : RowI ((w.alloc (.cells #[.int .i64 x0, .int .i64 x1, .int .i64 x2, .int .i64 x3, .int .i64 x4, .int .i64 x5] 80)).alloc (.cells #[.int .i64 0, .int .i64 0, .int .i64 0, .int .i64 0, .int .i64 0, .int .i64 0, .int .i64 0] 24)) w.heap.size 80 [x0, x1, x2, x3, x4, x5] := (RowI.of_alloc w 80 [x0, x1, x2, x3, x4, x5]).alloc _
  have hr2 : RowI ((w.alloc (.cells #[.int .i64 x0, .int .i64 x1, .int .i64 x2, .int .i64 x3, .int .i64 x4, .int .i64 x5] 80)).alloc (.cells #[.int .i64 0, .int .i64 0, .int .i64 0, .int .i64 0, .int .i64 0, .int .i64 0, .int .i64 0] 24)) (w.heap.size + 1) 24 [0, 0, 0, 0, 0, 0, 0] := by
    have h := RowI.of_alloc (w.alloc (.cells #[.int .i64 x0, .int .i64 x1, .int .i64 x2, .int .i64 x3, .int .i64 x4, .int .i64 x5] 80)) 24 [0, 0, 0, 0, 0, 0, 0]
    rw [World.size_alloc] at h
    exact h
  have hb0 : Below w.heap.size w ((w.alloc (.cells #[.int .i64 x0, .int .i64 x1, .int .i64 x2, .int .i64 x3, .int .i64 x4, .int .i64 x5] 80)).alloc (.cells #[.int .i64 0, .int .i64 0, .int .i64 0, .int .i64 0, .int .i64 0, .int .i64 0, .int .i64 0] 24)) := (belA w _).alloc (by simp) _
  generalize (w.alloc (.cells #[.int .i64 x0, .int .i64 x1, .int .i64 x2, .int .i64 x3, .int .i64 x4, .int .i64 x5] 80)).alloc (.cells #[.int .i64 0, .int .i64 0, .int .i64 0, .int .i64 0, .int .i64 0, .int .i64 0, .int .i64 0] 24) = W0 at *
  have HR1 := Lib.hid hr1
  have HR2 := Lib.hid hr2
  have HB := Lib.hid hb0
  clear hr1 hr2 hb0
  go_loopw [6, 7] (fun gv iv wr => MaRel W0 [x0, x1, x2, x3, x4, x5] d gv iv wr) (fun _ iv _ => 6 - (intOf iv).toNat)
  case atStart => exact ⟨0, d, Nat.zero_le _, rfl, rfl, hd1, hd2, rfl, Drawn.refl _⟩
  case round =>
    obtain ⟨i, g, hi, rfl, rfl, hg1, hg2, hgl, hdr⟩ := hrel
    have HGL := Lib.hid hgl
    have HDR := Lib.hid hdr
    have hrw := HR1.out.up hdr.below
    have HRW := Lib.hid hrw
    clear hgl hdr hrw
    by_cases hil : i < 6
    · obtain ⟨n, hn⟩ : ∃ n, [x0, x1, x2, x3, x4, x5][i]? = some n := ⟨[x0, x1, x2, x3, x4, x5][i], List.getElem?_eq_getElem _⟩
      have hilI : (i : Int) < 6 := by omega
      have hiI : (0 : Int) ≤ (i : Int) := by omega
      have k0 := HRW.out.cell hn
      have hnb := HX.out n (List.mem_of_getElem? hn)
      have HDA := Lib.hid (drop_at hn)
      clear hn
      obtain ⟨a, ha⟩ : ∃ a : Nat, (a : Int) = max n (-n) := ⟨n.natAbs, by omega⟩
      have ha2 : max n (-n) = (a : Int) := ha.symm
      have hab : a = n.natAbs := by omega
      have hal : a ≤ 1000000000 := by omega
      have hgc := fun W => rgcd_any g a W (by omega) (by omega)
      have hgb : Nat.gcd g a ≤ 1000000000 := Nat.le_trans (Nat.gcd_le_left _ hg1) hg2
      have hgq : 1 ≤ Nat.gcd g a := Nat.gcd_pos_of_pos_left _ hg1
      obtain ⟨q, hq⟩ : ∃ q, q = Nat.gcd g a := ⟨_, rfl⟩
      rw [← hq] at hgc hgb hgq
      have HQ := Lib.hid hq
      have HGC := Lib.hid hgc
      have HAB := Lib.hid hab
      clear hgc hq hab ha
      go_wp2
      go_quiet ((go_at_call 72; exact Calls.quiet_of (HGC.out _)))
      go_wp2
      refine ⟨⟨i + 1, q, by omega, by go_num, rfl, hgq, hgb, ?_, HDR.out.trans ⟨_, rfl⟩⟩, by simp [intOf]; omega⟩
      rw [← HGL.out, HDA.out, HQ.out, HAB.out]
      rfl
    · obtain rfl : i = 6 := by omega
      have hgG : g = G := by rw [HG.out]; exact HGL.out
      subst hgG
      have hr1 := (HR1.out.up HDR.out.below).alloc (.cells #[.int .i64 0, .int .i64 0, .int .i64 0, .int .i64 0, .int .i64 0, .int .i64 0, .int .i64 0] 24)
      have hr2 := (HR2.out.up HDR.out.below).alloc (.cells #[.int .i64 0, .int .i64 0, .int .i64 0, .int .i64 0, .int .i64 0, .int .i64 0, .int .i64 0] 24)
      have hr3 := RowI.of_alloc wr 24 (mixL [x0.tdiv (g : Int), x1.tdiv (g : Int), x2.tdiv (g : Int), x3.tdiv (g : Int), x4.tdiv (g : Int), x5.tdiv (g : Int)] zero6 0 ++ [0])
      have hbw : Below w.heap.size w wr := HB.out.trans (HDR.out.below.mono HB.out.size)
      have hb := hbw.trans ((belA wr (.cells #[.int .i64 0, .int .i64 0, .int .i64 0, .int .i64 0, .int .i64 0, .int .i64 0, .int .i64 0] 24)).mono hbw.size)
      have hlt : w.heap.size + 1 < wr.heap.size := (HR2.out.up HDR.out.below).lt
      have hg0 : ¬ (g : Int) = 0 := by omega
      have hg0b : ((g : Int) == 0) = false := beq_false_of_ne hg0
      have HR2w := Lib.hid (HR2.out.up HDR.out.below)
      have HBw := Lib.hid hbw
      clear HR1 HR2 HB HGL HDR HRW HG hbw
      have HR1 := Lib.hid hr1
      have HR2 := Lib.hid hr2
      have HR3 := Lib.hid (show RowI (wr.alloc (.cells #[.int .i64 0, .int .i64 0, .int .i64 0, .int .i64 0, .int .i64 0, .int .i64 0, .int .i64 0] 24)) wr.heap.size 24 (mixL [x0.tdiv (g : Int), x1.tdiv (g : Int), x2.tdiv (g : Int), x3.tdiv (g : Int), x4.tdiv (g : Int), x5.tdiv (g : Int)] zero6 0 ++ [0]) from hr3)
      have HB := Lib.hid hb
      have heI2 : IntKind.i64.wrap (e : Int) = (e : Int) := IntWalk.i64_in _ (by omega)
      clear hr1 hr2 hr3 hb
      by_cases he3 : 1000 < (e : Int)
      · have hWE := HW.out
        rw [if_neg (by rw [fits_list]; unfold wiB; rw [decide_eq_false (show ¬ (e : Int) ≤ 1000 by omega), Bool.and_false, Bool.and_false]; exact Bool.false_ne_true)] at hWE
        have HWE := Lib.hid hWE
        clear hWE HW
        obtain ⟨c0, c1, c2, c3, c4, c5, c6⟩ := HR2w.out.r7
        simp only [Nat.zero_add] at c0 c1 c2 c3 c4 c5 c6
        have f0 := HR2w.out.frozen 0
        have f1 := HR2w.out.frozen 1
        have f2 := HR2w.out.frozen 2
        have f3 := HR2w.out.frozen 3
        have f4 := HR2w.out.frozen 4
        have f5 := HR2w.out.frozen 5
        have f6 := HR2w.out.frozen 6
        go_wp2
        change bodyPost _ _ _ _ _ ((putR wr (w.heap.size + 1) 0 0 0 0 0 0 0).alloc (.cells #[.int .i64 0, .int .i64 0, .int .i64 0, .int .i64 0, .int .i64 0, .int .i64 0, .int .i64 0] 24))
        clear c0 c1 c2 c3 c4 c5 c6
        obtain ⟨c0, c1, c2, c3, c4, c5, c6⟩ := ((putR_row HR2w.out 0 0 0 0 0 0 0).alloc (.cells #[.int .i64 0, .int .i64 0, .int .i64 0, .int .i64 0, .int .i64 0, .int .i64 0, .int .i64 0] 24)).r7
        have hB0 := putR_below HBw.out (show w.heap.size ≤ w.heap.size + 1 by omega) 0 0 0 0 0 0 0
        have hB := hB0.trans ((belA (putR wr (w.heap.size + 1) 0 0 0 0 0 0 0) (.cells #[.int .i64 0, .int .i64 0, .int .i64 0, .int .i64 0, .int .i64 0, .int .i64 0, .int .i64 0] 24)).mono hB0.size)
        generalize (putR wr (w.heap.size + 1) 0 0 0 0 0 0 0).alloc (.cells #[.int .i64 0, .int .i64 0, .int .i64 0, .int .i64 0, .int .i64 0, .int .i64 0, .int .i64 0] 24) = W' at *
        simp only [Nat.zero_add] at c0 c1 c2 c3 c4 c5 c6
        refine bodyPost_ret (v := .tuple #[.agg #[.int .i64 0, .int .i64 0, .int .i64 0, .int .i64 0, .int .i64 0, .int .i64 0, .int .i64 0], .int .i64 7]) (by simp [results, Tryd.results42, c0, c1, c2, c3, c4, c5, c6, go_sem]) rfl ⟨?_, hB⟩
        rw [HWE.out]
        rfl
      go_wp2
      have hr1 : RowI (wr.alloc (.cells #[.int .i64 0, .int .i64 0, .int .i64 0, .int .i64 0, .int .i64 0, .int .i64 0, .int .i64 0] 24)) w.heap.size 80 [x0, x1, x2, x3, x4, x5] := HR1.out
      have hr2 : RowI (wr.alloc (.cells #[.int .i64 0, .int .i64 0, .int .i64 0, .int .i64 0, .int .i64 0, .int .i64 0, .int .i64 0] 24)) (w.heap.size + 1) 24 [0, 0, 0, 0, 0, 0, 0] := HR2.out
      have hr3 := HR3.out
      have hb := HB.out
      clear HR1 HR2 HR3 HB
      generalize hB2 : wr.heap.size = B2 at *
      clear hB2
      generalize wr.alloc (.cells #[.int .i64 0, .int .i64 0, .int .i64 0, .int .i64 0, .int .i64 0, .int .i64 0, .int .i64 0] 24) = W2 at *
      have HR1 := Lib.hid hr1
      have HR2 := Lib.hid hr2
      have HR3 := Lib.hid hr3
      have HB := Lib.hid hb
      clear hr1 hr2 hr3 hb
      go_loopw [9] (fun iv wr => MbRel w W2 B2 [x0, x1, x2, x3, x4, x5] [x0.tdiv (g : Int), x1.tdiv (g : Int), x2.tdiv (g : Int), x3.tdiv (g : Int), x4.tdiv (g : Int), x5.tdiv (g : Int)] iv wr) (fun iv _ => 6 - (intOf iv).toNat)
      case atStart => exact ⟨0, Nat.zero_le _, rfl, fun n h => (by cases h), HR1.out, HR2.out, HR3.out, HB.out⟩
      case round =>
        clear HR1 HR2 HR3 HB
        obtain ⟨i, hi, rfl, hok, hr1, hr2, hr3, hb⟩ := hrel
        have HOK := Lib.hid hok
        have HR1 := Lib.hid hr1
        have HR2 := Lib.hid hr2
        have HR3 := Lib.hid hr3
        have HB := Lib.hid hb
        clear hok hr1 hr2 hr3 hb
        have hB2a : B2 ≠ w.heap.size := by omega
        have hB2b : B2 ≠ w.heap.size + 1 := by omega
        by_cases hil : i < 6
        · obtain ⟨n, hn⟩ : ∃ n, [x0, x1, x2, x3, x4, x5][i]? = some n := ⟨[x0, x1, x2, x3, x4, x5][i], List.getElem?_eq_getElem _⟩
          have hilI : (i : Int) < 6 := by omega
          have hiI : (0 : Int) ≤ (i : Int) := by omega
          have k0 := HR1.out.cell hn
          have hnb := HX.out n (List.mem_of_getElem? hn)
          obtain ⟨y, hy⟩ : ∃ y, n.tdiv (g : Int) = y := ⟨_, rfl⟩
          have hyb : -1000000000 ≤ y ∧ y ≤ 1000000000 := by rw [← hy]; exact tdiv_bound hnb
          have hy2 : IntKind.i64.wrap y = y := IntWalk.i64_in _ (by omega)
          have hqi : [x0.tdiv (g : Int), x1.tdiv (g : Int), x2.tdiv (g : Int), x3.tdiv (g : Int), x4.tdiv (g : Int), x5.tdiv (g : Int)][i]? = some y := by
            have h : [x0.tdiv (g : Int), x1.tdiv (g : Int), x2.tdiv (g : Int), x3.tdiv (g : Int), x4.tdiv (g : Int), x5.tdiv (g : Int)] = [x0, x1, x2, x3, x4, x5].map (·.tdiv (g : Int)) := rfl
            rw [h, map_at hn, hy]
          have HQI := Lib.hid hqi
          clear hn hqi
          by_cases hf : fitB y = true
          · obtain ⟨o, ho⟩ := mixL_at (Z := [x0.tdiv (g : Int), x1.tdiv (g : Int), x2.tdiv (g : Int), x3.tdiv (g : Int), x4.tdiv (g : Int), x5.tdiv (g : Int)]) (O := zero6) (i := i) rfl hil
            have hl6 : (mixL [x0.tdiv (g : Int), x1.tdiv (g : Int), x2.tdiv (g : Int), x3.tdiv (g : Int), x4.tdiv (g : Int), x5.tdiv (g : Int)] zero6 i).length = 6 := by
              unfold mixL
              rw [List.length_append, List.length_take, List.length_drop]
              show min i 6 + (6 - i) = 6
              omega
            have kz := HR3.out.cell (i := i) (x := o) (by rw [List.getElem?_append_left (by omega)]; exact ho)
            have fz := HR3.out.frozen i
            have hset := mixL_set (Z := [x0.tdiv (g : Int), x1.tdiv (g : Int), x2.tdiv (g : Int), x3.tdiv (g : Int), x4.tdiv (g : Int), x5.tdiv (g : Int)]) (O := zero6) rfl HQI.out
            obtain ⟨f1, f2⟩ := fitB_iff.1 hf
            have HF := Lib.hid hf
            have HSET := Lib.hid hset
            have HL6 := Lib.hid hl6
            clear hf ho hset hl6
            go_wp2
            refine ⟨⟨i + 1, by omega, by go_num, ?_, HR1.out.other _ (Ne.symm hB2a), HR2.out.other _ (Ne.symm hB2b), ?_, HB.out.setCell (by show w.heap.size ≤ B2; omega) _⟩, by simp [intOf]; omega⟩
            · intro z hz
              rw [List.take_add_one, HQI.out, List.mem_append] at hz
              rcases hz with h | h
              · exact HOK.out z h
              · simp at h; subst h; exact HF.out
            · have h := HR3.out.set i y
              rw [List.set_append, if_pos (by rw [HL6.out]; exact hil), HSET.out] at h
              exact h
          · have hWE := HW.out
            rw [if_neg (by
              rw [fits_list]
              intro h
              rw [Bool.and_eq_true] at h
              exact hf (List.all_eq_true.1 h.1 y (List.mem_of_getElem? HQI.out)))] at hWE
            have HWE := Lib.hid hWE
            clear hWE HW
            by_cases h1 : y < -100000
            · clear hf
              obtain ⟨c0, c1, c2, c3, c4, c5, c6⟩ := HR2.out.r7
              simp only [Nat.zero_add] at c0 c1 c2 c3 c4 c5 c6
              have f0 := HR2.out.frozen 0
              have f1 := HR2.out.frozen 1
              have f2 := HR2.out.frozen 2
              have f3 := HR2.out.frozen 3
              have f4 := HR2.out.frozen 4
              have f5 := HR2.out.frozen 5
              have f6 := HR2.out.frozen 6
              go_wp2
              change bodyPost _ _ _ _ _ (putR wr (w.heap.size + 1) 0 0 0 0 0 0 0)
              clear c0 c1 c2 c3 c4 c5 c6
              obtain ⟨c0, c1, c2, c3, c4, c5, c6⟩ := (putR_row HR2.out 0 0 0 0 0 0 0).r7
              have hB := putR_below HB.out (show w.heap.size ≤ w.heap.size + 1 by omega) 0 0 0 0 0 0 0
              generalize putR wr (w.heap.size + 1) 0 0 0 0 0 0 0 = W' at *
              simp only [Nat.zero_add] at c0 c1 c2 c3 c4 c5 c6
              refine bodyPost_ret (v := .tuple #[.agg #[.int .i64 0, .int .i64 0, .int .i64 0, .int .i64 0, .int .i64 0, .int .i64 0, .int .i64 0], .int .i64 7]) (by simp [results, Tryd.results42, c0, c1, c2, c3, c4, c5, c6, go_sem]) rfl ⟨?_, hB⟩
              rw [HWE.out]
              rfl
            · have h2 : 100000 < y := by
                rcases Int.lt_or_le 100000 y with h2 | h2
                · exact h2
                · exact absurd (fitB_iff.2 ⟨by omega, h2⟩) hf
              clear hf
              obtain ⟨c0, c1, c2, c3, c4, c5, c6⟩ := HR2.out.r7
              simp only [Nat.zero_add] at c0 c1 c2 c3 c4 c5 c6
              have f0 := HR2.out.frozen 0
              have f1 := HR2.out.frozen 1
              have f2 := HR2.out.frozen 2
              have f3 := HR2.out.frozen 3
              have f4 := HR2.out.frozen 4
              have f5 := HR2.out.frozen 5
              have f6 := HR2.out.frozen 6
              go_wp2
              change bodyPost _ _ _ _ _ (putR wr (w.heap.size + 1) 0 0 0 0 0 0 0)
              clear c0 c1 c2 c3 c4 c5 c6
              obtain ⟨c0, c1, c2, c3, c4, c5, c6⟩ := (putR_row HR2.out 0 0 0 0 0 0 0).r7
              have hB := putR_below HB.out (show w.heap.size ≤ w.heap.size + 1 by omega) 0 0 0 0 0 0 0
              generalize putR wr (w.heap.size + 1) 0 0 0 0 0 0 0 = W' at *
              simp only [Nat.zero_add] at c0 c1 c2 c3 c4 c5 c6
              refine bodyPost_ret (v := .tuple #[.agg #[.int .i64 0, .int .i64 0, .int .i64 0, .int .i64 0, .int .i64 0, .int .i64 0, .int .i64 0], .int .i64 7]) (by simp [results, Tryd.results42, c0, c1, c2, c3, c4, c5, c6, go_sem]) rfl ⟨?_, hB⟩
              rw [HWE.out]
              rfl
        · obtain rfl : i = 6 := by omega
          have hl6 : mixL [x0.tdiv (g : Int), x1.tdiv (g : Int), x2.tdiv (g : Int), x3.tdiv (g : Int), x4.tdiv (g : Int), x5.tdiv (g : Int)] zero6 6 = [x0.tdiv (g : Int), x1.tdiv (g : Int), x2.tdiv (g : Int), x3.tdiv (g : Int), x4.tdiv (g : Int), x5.tdiv (g : Int)] := rfl
          have hr3 := HR3.out
          rw [hl6] at hr3
          have hall : [x0.tdiv (g : Int), x1.tdiv (g : Int), x2.tdiv (g : Int), x3.tdiv (g : Int), x4.tdiv (g : Int), x5.tdiv (g : Int)].all fitB = true := List.all_eq_true.2 fun y hy => HOK.out y (by simpa using hy)
          have hWE := HW.out
          rw [if_pos (by rw [fits_list, hall]; unfold wiB; rw [decide_eq_true (show 1 ≤ (e : Int) by omega), decide_eq_true (show (e : Int) ≤ 1000 by omega)]; rfl)] at hWE
          have HWE := Lib.hid hWE
          clear hWE HW hl6 hall HOK HR3
          generalize x0.tdiv (g : Int) = y0 at *
          generalize x1.tdiv (g : Int) = y1 at *
          generalize x2.tdiv (g : Int) = y2 at *
          generalize x3.tdiv (g : Int) = y3 at *
          generalize x4.tdiv (g : Int) = y4 at *
          generalize x5.tdiv (g : Int) = y5 at *
          have hr4 := hr3.set 6 (e : Int)
          have hr2' := HR2.out.other (k := B2) (i := 6) (.int .i64 (e : Int)) (Ne.symm hB2b)
          have m6 := hr3.cell (i := 6) (x := 0) rfl
          have g6 := hr3.frozen 6
          have hb4 : Below w.heap.size w (wr.setCell ⟨B2, 6, none⟩ (.int .i64 (e : Int))) := HB.out.setCell (by show w.heap.size ≤ B2; omega) _
          have HR4 := Lib.hid (show RowI (wr.setCell ⟨B2, 6, none⟩ (.int .i64 (e : Int))) B2 24 [y0, y1, y2, y3, y4, y5, (e : Int)] from hr4)
          clear HR2 HB hr3 hr4
          have HR2 := Lib.hid hr2'
          have HB := Lib.hid hb4
          clear hr2' hb4
          obtain ⟨n0, n1, n2, n3, n4, n5, n6⟩ := HR4.out.r7
          simp only [Nat.zero_add] at n0 n1 n2 n3 n4 n5 n6
          obtain ⟨c0, c1, c2, c3, c4, c5, c6⟩ := HR2.out.r7
          simp only [Nat.zero_add] at c0 c1 c2 c3 c4 c5 c6
          have f0 := HR2.out.frozen 0
          have f1 := HR2.out.frozen 1
          have f2 := HR2.out.frozen 2
          have f3 := HR2.out.frozen 3
          have f4 := HR2.out.frozen 4
          have f5 := HR2.out.frozen 5
          have f6 := HR2.out.frozen 6
          go_wp2
          change bodyPost _ _ _ _ _ (putR (wr.setCell ⟨B2, 6, none⟩ (.int .i64 (e : Int))) (w.heap.size + 1) y0 y1 y2 y3 y4 y5 (e : Int))
          clear c0 c1 c2 c3 c4 c5 c6
          obtain ⟨c0, c1, c2, c3, c4, c5, c6⟩ := (putR_row HR2.out y0 y1 y2 y3 y4 y5 (e : Int)).r7
          have hB := putR_below HB.out (show w.heap.size ≤ w.heap.size + 1 by omega) y0 y1 y2 y3 y4 y5 (e : Int)
          generalize putR (wr.setCell ⟨B2, 6, none⟩ (.int .i64 (e : Int))) (w.heap.size + 1) y0 y1 y2 y3 y4 y5 (e : Int) = W' at *
          simp only [Nat.zero_add] at c0 c1 c2 c3 c4 c5 c6
          refine bodyPost_ret (v := .tuple #[.agg #[.int .i64 y0, .int .i64 y1, .int .i64 y2, .int .i64 y3, .int .i64 y4, .int .i64 y5, .int .i64 (e : Int)], .int .i64 0]) (by simp [results, Tryd.results42, c0, c1, c2, c3, c4, c5, c6, go_sem]) rfl ⟨?_, hB⟩
          rw [HWE.out]
          rfl
end Go.Proofs.YtkoghdgfllichaaDoor
namespace Go.Proofs.YtkoghdgfllichaaDoor
open Go.RowKit

def RbRel (w : World) (B3 : Nat) (X Y : List Int) (xd yd s : Int) (iv : Value) (wr : World) : Prop :=
  ∃ i : Nat, i ≤ 6 ∧ iv = .int .i64 (i : Int) ∧ RowI wr w.heap.size 24 (X ++ [xd]) ∧ RowI wr (w.heap.size + 1) 24 (Y ++ [yd]) ∧ RowI wr (w.heap.size + 1 + 1) 24 [0, 0, 0, 0, 0, 0, 0] ∧ RowI wr B3 80 (mixL (tpL X Y xd yd s) zero6 i) ∧ Below w.heap.size w wr
set_option maxRecDepth 100000 in
set_option maxHeartbeats 4000000 in
theorem both_any (x0 x1 x2 x3 x4 x5 xd y0 y1 y2 y3 y4 y5 yd s : Int) (w : World) (hs : s = 1 ∨ s = -1) :
    Calls Tryd.prog 54 #[.agg #[.int .i64 x0, .int .i64 x1, .int .i64 x2, .int .i64 x3, .int .i64 x4, .int .i64 x5, .int .i64 xd], .agg #[.int .i64 y0, .int .i64 y1, .int .i64 y2, .int .i64 y3, .int .i64 y4, .int .i64 y5, .int .i64 yd], .int .i64 s] w (RtPost w (bothW ⟨⟨x0, x1, x2, x3, x4, x5⟩, xd⟩ ⟨⟨y0, y1, y2, y3, y4, y5⟩, yd⟩ s)) := by
  have hT : timesW ⟨⟨x0, x1, x2, x3, x4, x5⟩, xd⟩ ⟨⟨y0, y1, y2, y3, y4, y5⟩, yd⟩ s = (⟨tpZ x0 y0 xd yd s, tpZ x1 y1 xd yd s, tpZ x2 y2 xd yd s, tpZ x3 y3 xd yd s, tpZ x4 y4 xd yd s, tpZ x5 y5 xd yd s⟩, xd * yd) := by
    unfold timesW
    refine Prod.ext (V6.eq ?_ ?_ ?_ ?_ ?_ ?_) rfl <;> simp only [V6.scl, V6.add, tpZ] <;> grind
  have hW : bothW ⟨⟨x0, x1, x2, x3, x4, x5⟩, xd⟩ ⟨⟨y0, y1, y2, y3, y4, y5⟩, yd⟩ s = if Rt.err ⟨⟨x0, x1, x2, x3, x4, x5⟩, xd⟩ = 0 then (if Rt.err ⟨⟨y0, y1, y2, y3, y4, y5⟩, yd⟩ = 0 then lowW ⟨tpZ x0 y0 xd yd s, tpZ x1 y1 xd yd s, tpZ x2 y2 xd yd s, tpZ x3 y3 xd yd s, tpZ x4 y4 xd yd s, tpZ x5 y5 xd yd s⟩ (xd * yd) else (Rt.zero, Rt.err ⟨⟨y0, y1, y2, y3, y4, y5⟩, yd⟩)) else (Rt.zero, Rt.err ⟨⟨x0, x1, x2, x3, x4, x5⟩, xd⟩) := by
    unfold bothW
    rw [hT]
  have hokx := fun h => (Rt.ok_iff (r := ⟨⟨x0, x1, x2, x3, x4, x5⟩, xd⟩)).1 h
  have hoky := fun h => (Rt.ok_iff (r := ⟨⟨y0, y1, y2, y3, y4, y5⟩, yd⟩)).1 h
  have hcx := fun W => rCheck_any x0 x1 x2 x3 x4 x5 xd W
  have hcy := fun W => rCheck_any y0 y1 y2 y3 y4 y5 yd W
  have HOX := Lib.hid hokx
  have HOY := Lib.hid hoky
  clear hT hokx hoky
  generalize bothW ⟨⟨x0, x1, x2, x3, x4, x5⟩, xd⟩ ⟨⟨y0, y1, y2, y3, y4, y5⟩, yd⟩ s = RW at *
  have HW := Lib.hid hW
  clear hW
  generalize hex : Rt.err ⟨⟨x0, x1, x2, x3, x4, x5⟩, xd⟩ = ex at *
  generalize hey : Rt.err ⟨⟨y0, y1, y2, y3, y4, y5⟩, yd⟩ = ey at *
  have HCX := Lib.hid hcx
  have HCY := Lib.hid hcy
  clear hex hey hcx hcy
  go_enter Tryd.func54, Tryd.ntmps54
  have hr3 : RowI (((w.alloc (.cells #[.int .i64 x0, .int .i64 x1, .int .i64 x2, .int .i64 x3, .int .i64 x4, .int .i64 x5, .int .i64 xd] 24)).alloc (.cells #[.int .i64 y0, .int .i64 y1, .int .i64 y2, .int .i64 y3, .int .i64 y4, .int .i64 y5, .int .i64 yd] 24)).alloc (.cells #[.int .i64 0, .int .i64 0, .int .i64 0, .int .i64 0, .int .i64 0, .int .i64 0, .int .i64 0] 24)) (w.heap.size + 1 + 1) 24 [0, 0, 0, 0, 0, 0, 0] := by
    have h := RowI.of_alloc ((w.alloc (.cells #[.int .i64 x0, .int .i64 x1, .int .i64 x2, .int .i64 x3, .int .i64 x4, .int .i64 x5, .int .i64 xd] 24)).alloc (.cells #[.int .i64 y0, .int .i64 y1, .int .i64 y2, .int .i64 y3, .int .i64 y4, .int .i64 y5, .int .i64 yd] 24)) 24 [0, 0, 0, 0, 0, 0, 0]
    rw [World.size_alloc, World.size_alloc] at h
    exact h
  have hr1 : RowI (((w.alloc (.cells #[.int .i64 x0, .int .i64 x1, .int .i64 x2, .int .i64 x3, .int .i64 x4, .int .i64 x5, .int .i64 xd] 24)).alloc (.cells #[.int .i64 y0, .int .i64 y1, .int .i64 y2, .int .i64 y3, .int .i64 y4, .int .i64 y5, .int .i64 yd] 24)).alloc (.cells #[.int .i64 0, .int .i64 0, .int .i64 0, .int .i64 0, .int .i64 0, .int .i64 0, .int .i64 0] 24)) w.heap.size 24 [x0, x1, x2, x3, x4, x5, xd] := ((RowI.of_alloc w 24 [x0, x1, x2, x3, x4, x5, xd]).alloc _).alloc _
  have hr2 : RowI (((w.alloc (.cells #[.int .i64 x0, .int .i64 x1, .int .i64 x2, .int .i64 x3, .int .i64 x4, .int .i64 x5, .int .i64 xd] 24)).alloc (.cells #[.int .i64 y0, .int .i64 y1, .int .i64 y2, .int .i64 y3, .int .i64 y4, .int .i64 y5, .int .i64 yd] 24)).alloc (.cells #[.int .i64 0, .int .i64 0, .int .i64 0, .int .i64 0, .int .i64 0, .int .i64 0, .int .i64 0] 24)) (w.heap.size + 1) 24 [y0, y1, y2, y3, y4, y5, yd] := by
    have h := (RowI.of_alloc (w.alloc (.cells #[.int .i64 x0, .int .i64 x1, .int .i64 x2, .int .i64 x3, .int .i64 x4, .int .i64 x5, .int .i64 xd] 24)) 24 [y0, y1, y2, y3, y4, y5, yd]).alloc (.cells #[.int .i64 0, .int .i64 0, .int .i64 0, .int .i64 0, .int .i64 0, .int .i64 0, .int .i64 0] 24)
    rw [World.size_alloc] at h
    exact h
  have hb0 := ((belA w (.cells #[.int .i64 x0, .int .i64 x1, .int .i64 x2, .int .i64 x3, .int .i64 x4, .int .i64 x5, .int .i64 xd] 24)).alloc (by simp) (.cells #[.int .i64 y0, .int .i64 y1, .int .i64 y2, .int .i64 y3, .int .i64 y4, .int .i64 y5, .int .i64 yd] 24)).alloc (by simp; omega) (.cells #[.int .i64 0, .int .i64 0, .int .i64 0, .int .i64 0, .int .i64 0, .int .i64 0, .int .i64 0] 24)
  go_wp2
  generalize ((w.alloc (.cells #[.int .i64 x0, .int .i64 x1, .int .i64 x2, .int .i64 x3, .int .i64 x4, .int .i64 x5, .int .i64 xd] 24)).alloc (.cells #[.int .i64 y0, .int .i64 y1, .int .i64 y2, .int .i64 y3, .int .i64 y4, .int .i64 y5, .int .i64 yd] 24)).alloc (.cells #[.int .i64 0, .int .i64 0, .int .i64 0, .int .i64 0, .int .i64 0, .int .i64 0, .int .i64 0] 24) = W0 at *
  have HR1 := Lib.hid hr1
  have HR2 := Lib.hid hr2
  have HR3 := Lib.hid hr3
  have HB := Lib.hid hb0
  have hz := hb0.size
  clear hr1 hr2 hr3 hb0
  obtain ⟨c0, c1, c2, c3, c4, c5, c6⟩ := HR1.out.r7
  obtain ⟨d0, d1, d2, d3, d4, d5, d6⟩ := HR2.out.r7
  simp only [Nat.zero_add] at c0 c1 c2 c3 c4 c5 c6 d0 d1 d2 d3 d4 d5 d6
  go_region_held3 (fun w' => w'.cell? ⟨w.heap.size, 0, none⟩ = some (.int .i64 x0) ∧ w'.cell? ⟨w.heap.size, 1, none⟩ = some (.int .i64 x1) ∧ w'.cell? ⟨w.heap.size, 2, none⟩ = some (.int .i64 x2) ∧ w'.cell? ⟨w.heap.size, 3, none⟩ = some (.int .i64 x3) ∧ w'.cell? ⟨w.heap.size, 4, none⟩ = some (.int .i64 x4) ∧ w'.cell? ⟨w.heap.size, 5, none⟩ = some (.int .i64 x5) ∧ w'.cell? ⟨w.heap.size, 6, none⟩ = some (.int .i64 xd) ∧ w'.cell? ⟨w.heap.size + 1, 0, none⟩ = some (.int .i64 y0) ∧ w'.cell? ⟨w.heap.size + 1, 1, none⟩ = some (.int .i64 y1) ∧ w'.cell? ⟨w.heap.size + 1, 2, none⟩ = some (.int .i64 y2) ∧ w'.cell? ⟨w.heap.size + 1, 3, none⟩ = some (.int .i64 y3) ∧ w'.cell? ⟨w.heap.size + 1, 4, none⟩ = some (.int .i64 y4) ∧ w'.cell? ⟨w.heap.size + 1, 5, none⟩ = some (.int .i64 y5) ∧ w'.cell? ⟨w.heap.size + 1, 6, none⟩ = some (.int .i64 yd))
    (first | (refine ⟨?_, ?_, ?_, ?_, ?_, ?_, ?_, ?_, ?_, ?_, ?_, ?_, ?_, ?_⟩ <;> with_reducible assumption) | go_keep)
    (first
      | (go_at_call 35; refine Calls.mono (HCX.out _) ?_; clear HCX; rintro e w1 ⟨he, hb1⟩; subst he; have hb1' := ((Below.refl W0.heap.size W0).drew).trans (hb1.mono (Nat.le_refl _)); clear c0 c1 c2 c3 c4 c5 c6 d0 d1 d2 d3 d4 d5 d6; obtain ⟨c0, c1, c2, c3, c4, c5, c6⟩ := (HR1.out.up hb1').r7; obtain ⟨d0, d1, d2, d3, d4, d5, d6⟩ := (HR2.out.up hb1').r7; simp only [Nat.zero_add] at c0 c1 c2 c3 c4 c5 c6 d0 d1 d2 d3 d4 d5 d6)
      | (go_at_call 35; refine Calls.mono (HCY.out _) ?_; clear HCY; rintro e w2 ⟨he, hb2⟩; subst he; have hb2' := hb1'.trans (hb2.mono hb1'.size); clear c0 c1 c2 c3 c4 c5 c6 d0 d1 d2 d3 d4 d5 d6; obtain ⟨c0, c1, c2, c3, c4, c5, c6⟩ := (HR1.out.up hb2').r7; obtain ⟨d0, d1, d2, d3, d4, d5, d6⟩ := (HR2.out.up hb2').r7; simp only [Nat.zero_add] at c0 c1 c2 c3 c4 c5 c6 d0 d1 d2 d3 d4 d5 d6))
  have hr1 := HR1.out.up hb2'
  have hr2 := HR2.out.up hb2'
  have hr3 := HR3.out.up hb2'
  have hb := HB.out.trans (hb2'.mono hz)
  clear HR1 HR2 HR3 HB hz hb1 hb1' hb2 hb2'
  have HR1 := Lib.hid hr1
  have HR2 := Lib.hid hr2
  have HR3 := Lib.hid hr3
  have HB := Lib.hid hb
  have hz := hb.size
  clear hr1 hr2 hr3 hb
  by_cases hx0 : ex = 0
  case neg =>
    have hxb : (ex != 0) = true := by simp [hx0]
    have hWE := HW.out
    rw [if_neg hx0] at hWE
    have HWE := Lib.hid hWE
    clear hWE HW c0 c1 c2 c3 c4 c5 c6 d0 d1 d2 d3 d4 d5 d6
    obtain ⟨c0, c1, c2, c3, c4, c5, c6⟩ := HR3.out.r7
    simp only [Nat.zero_add] at c0 c1 c2 c3 c4 c5 c6
    have f0 := HR3.out.frozen 0
    have f1 := HR3.out.frozen 1
    have f2 := HR3.out.frozen 2
    have f3 := HR3.out.frozen 3
    have f4 := HR3.out.frozen 4
    have f5 := HR3.out.frozen 5
    have f6 := HR3.out.frozen 6
    go_wp2
    change bodyPost _ _ _ _ _ (putR w2 (w.heap.size + 1 + 1) 0 0 0 0 0 0 0)
    clear c0 c1 c2 c3 c4 c5 c6
    obtain ⟨c0, c1, c2, c3, c4, c5, c6⟩ := (putR_row HR3.out 0 0 0 0 0 0 0).r7
    have hB := putR_below HB.out (show w.heap.size ≤ w.heap.size + 1 + 1 by omega) 0 0 0 0 0 0 0
    generalize putR w2 (w.heap.size + 1 + 1) 0 0 0 0 0 0 0 = W' at *
    simp only [Nat.zero_add] at c0 c1 c2 c3 c4 c5 c6
    refine bodyPost_ret (v := .tuple #[.agg #[.int .i64 0, .int .i64 0, .int .i64 0, .int .i64 0, .int .i64 0, .int .i64 0, .int .i64 0], .int .i64 ex]) (by simp [results, Tryd.results54, c0, c1, c2, c3, c4, c5, c6, go_sem]) rfl ⟨?_, hB⟩
    rw [HWE.out]
    rfl
  subst hx0
  by_cases hy0 : ey = 0
  case neg =>
    have hyb : (ey != 0) = true := by simp [hy0]
    have hWE := HW.out
    rw [if_pos rfl, if_neg hy0] at hWE
    have HWE := Lib.hid hWE
    clear hWE HW c0 c1 c2 c3 c4 c5 c6 d0 d1 d2 d3 d4 d5 d6
    obtain ⟨c0, c1, c2, c3, c4, c5, c6⟩ := HR3.out.r7
    simp only [Nat.zero_add] at c0 c1 c2 c3 c4 c5 c6
    have f0 := HR3.out.frozen 0
    have f1 := HR3.out.frozen 1
    have f2 := HR3.out.frozen 2
    have f3 := HR3.out.frozen 3
    have f4 := HR3.out.frozen 4
    have f5 := HR3.out.frozen 5
    have f6 := HR3.out.frozen 6
    go_wp2
    change bodyPost _ _ _ _ _ (putR w2 (w.heap.size + 1 + 1) 0 0 0 0 0 0 0)
    clear c0 c1 c2 c3 c4 c5 c6
    obtain ⟨c0, c1, c2, c3, c4, c5, c6⟩ := (putR_row HR3.out 0 0 0 0 0 0 0).r7
    have hB := putR_below HB.out (show w.heap.size ≤ w.heap.size + 1 + 1 by omega) 0 0 0 0 0 0 0
    generalize putR w2 (w.heap.size + 1 + 1) 0 0 0 0 0 0 0 = W' at *
    simp only [Nat.zero_add] at c0 c1 c2 c3 c4 c5 c6
    refine bodyPost_ret (v := .tuple #[.agg #[.int .i64 0, .int .i64 0, .int .i64 0, .int .i64 0, .int .i64 0, .int .i64 0, .int .i64 0], .int .i64 ey]) (by simp [results, Tryd.results54, c0, c1, c2, c3, c4, c5, c6, go_sem]) rfl ⟨?_, hB⟩
    rw [HWE.out]
    rfl
  subst hy0
  have okx := HOX.out rfl
  have oky := HOY.out rfl
  obtain ⟨bx0, bx1, bx2, bx3, bx4, bx5, bxd⟩ := okx.nums
  obtain ⟨by0, by1, by2, by3, by4, by5, byd⟩ := oky.nums
  simp only at bx0 bx1 bx2 bx3 bx4 bx5 bxd by0 by1 by2 by3 by4 by5 byd
  have hsb : -1 ≤ s ∧ s ≤ 1 := by omega
  have hWE := HW.out
  rw [if_pos rfl, if_pos rfl] at hWE
  have hxl : ∀ n ∈ [x0, x1, x2, x3, x4, x5], -100000 ≤ n ∧ n ≤ 100000 := by
    simp only [List.mem_cons, List.not_mem_nil, or_false, forall_eq_or_imp, forall_eq]
    exact ⟨bx0, bx1, bx2, bx3, bx4, bx5⟩
  have hyl : ∀ n ∈ [y0, y1, y2, y3, y4, y5], -100000 ≤ n ∧ n ≤ 100000 := by
    simp only [List.mem_cons, List.not_mem_nil, or_false, forall_eq_or_imp, forall_eq]
    exact ⟨by0, by1, by2, by3, by4, by5⟩
  have hzl : ∀ n ∈ [tpZ x0 y0 xd yd s, tpZ x1 y1 xd yd s, tpZ x2 y2 xd yd s, tpZ x3 y3 xd yd s, tpZ x4 y4 xd yd s, tpZ x5 y5 xd yd s], -1000000000 ≤ n ∧ n ≤ 1000000000 := by
    simp only [List.mem_cons, List.not_mem_nil, or_false, forall_eq_or_imp, forall_eq]
    exact ⟨tpZ_bd bx0 by0 bxd byd hsb, tpZ_bd bx1 by1 bxd byd hsb, tpZ_bd bx2 by2 bxd byd hsb, tpZ_bd bx3 by3 bxd byd hsb, tpZ_bd bx4 by4 bxd byd hsb, tpZ_bd bx5 by5 bxd byd hsb⟩
  have hdd := mul_bd (A := 1000) (B := 1000) (show -1000 ≤ xd ∧ xd ≤ 1000 by omega) (show -1000 ≤ yd ∧ yd ≤ 1000 by omega) (by omega)
  have hdp : 0 < xd * yd := Int.mul_pos (by omega) (by omega)
  obtain ⟨D, hD⟩ : ∃ D : Nat, xd * yd = (D : Int) := ⟨(xd * yd).toNat, by omega⟩
  have hma := fun W => made_any (tpZ x0 y0 xd yd s) (tpZ x1 y1 xd yd s) (tpZ x2 y2 xd yd s) (tpZ x3 y3 xd yd s) (tpZ x4 y4 xd yd s) (tpZ x5 y5 xd yd s) D W (by omega) (by omega) hzl
  rw [← hD, ← hWE] at hma
  rw [hD] at hma
  have eD : IntKind.i64.wrap (D : Int) = (D : Int) := IntWalk.i64_in _ (by omega)
  have HMA := Lib.hid hma
  have HXL := Lib.hid hxl
  have HYL := Lib.hid hyl
  have HDE := Lib.hid hD
  clear hma hxl hyl hzl hWE HW okx oky bx0 bx1 bx2 bx3 bx4 bx5 by0 by1 by2 by3 by4 by5 hs HOX HOY hD c0 c1 c2 c3 c4 c5 c6 d0 d1 d2 d3 d4 d5 d6 hdd hdp
  go_wp2
  have hr1 := HR1.out.alloc (.cells #[.int .i64 0, .int .i64 0, .int .i64 0, .int .i64 0, .int .i64 0, .int .i64 0] 80)
  have hr2 := HR2.out.alloc (.cells #[.int .i64 0, .int .i64 0, .int .i64 0, .int .i64 0, .int .i64 0, .int .i64 0] 80)
  have hr3 := HR3.out.alloc (.cells #[.int .i64 0, .int .i64 0, .int .i64 0, .int .i64 0, .int .i64 0, .int .i64 0] 80)
  have hr4 : RowI (w2.alloc (.cells #[.int .i64 0, .int .i64 0, .int .i64 0, .int .i64 0, .int .i64 0, .int .i64 0] 80)) w2.heap.size 80 (mixL (tpL [x0, x1, x2, x3, x4, x5] [y0, y1, y2, y3, y4, y5] xd yd s) zero6 0) := RowI.of_alloc w2 80 zero6
  have hb := HB.out.trans ((belA w2 (.cells #[.int .i64 0, .int .i64 0, .int .i64 0, .int .i64 0, .int .i64 0, .int .i64 0] 80)).mono hz)
  have hlt := HR3.out.lt
  clear HR1 HR2 HR3 HB
  generalize hB3 : w2.heap.size = B3 at *
  clear hB3
  generalize w2.alloc (.cells #[.int .i64 0, .int .i64 0, .int .i64 0, .int .i64 0, .int .i64 0, .int .i64 0] 80) = W2 at *
  have HR1 := Lib.hid hr1
  have HR2 := Lib.hid hr2
  have HR3 := Lib.hid hr3
  have HR4 := Lib.hid hr4
  have HB := Lib.hid hb
  clear hr1 hr2 hr3 hr4 hb
  go_loopw [11] (fun iv wr => RbRel w B3 [x0, x1, x2, x3, x4, x5] [y0, y1, y2, y3, y4, y5] xd yd s iv wr) (fun iv _ => 6 - (intOf iv).toNat)
  case atStart => exact ⟨0, Nat.zero_le _, rfl, HR1.out, HR2.out, HR3.out, HR4.out, HB.out⟩
  case round =>
    clear HR1 HR2 HR3 HR4 HB
    obtain ⟨i, hi, rfl, hrx, hry, hrz, hr4, hb⟩ := hrel
    have HRX := Lib.hid hrx
    have HRY := Lib.hid hry
    have HR3 := Lib.hid hrz
    have HR4 := Lib.hid hr4
    have HB := Lib.hid hb
    clear hrx hry hrz hr4 hb
    have kxd := HRX.out.cell (i := 6) (x := xd) rfl
    have kyd := HRY.out.cell (i := 6) (x := yd) rfl
    have nb0 : w.heap.size ≠ B3 := by omega
    have nb1 : w.heap.size + 1 ≠ B3 := by omega
    have nb2 : w.heap.size + 1 + 1 ≠ B3 := by omega
    by_cases hil : i < 6
    · obtain ⟨x, hx⟩ : ∃ x, [x0, x1, x2, x3, x4, x5][i]? = some x := ⟨[x0, x1, x2, x3, x4, x5][i], List.getElem?_eq_getElem _⟩
      obtain ⟨y, hy⟩ : ∃ y, [y0, y1, y2, y3, y4, y5][i]? = some y := ⟨[y0, y1, y2, y3, y4, y5][i], List.getElem?_eq_getElem _⟩
      have hxb := HXL.out x (List.mem_of_getElem? hx)
      have hyb := HYL.out y (List.mem_of_getElem? hy)
      have kx := HRX.out.cell (at7 (d := xd) hx)
      have ky := HRY.out.cell (at7 (d := yd) hy)
      obtain ⟨o, ho⟩ := mixL_at (Z := tpL [x0, x1, x2, x3, x4, x5] [y0, y1, y2, y3, y4, y5] xd yd s) (O := zero6) (i := i) rfl hil
      have kz := HR4.out.cell ho
      have fz := HR4.out.frozen i
      have hset := mixL_set (Z := tpL [x0, x1, x2, x3, x4, x5] [y0, y1, y2, y3, y4, y5] xd yd s) (O := zero6) (i := i) rfl (zip_at hx hy)
      have HSET := Lib.hid hset
      have hilI : (i : Int) < 6 := by omega
      have hiI : (0 : Int) ≤ (i : Int) := by omega
      have p1 := mul_bd (A := 100000) (B := 1000) hxb (show -1000 ≤ yd ∧ yd ≤ 1000 by omega) (by omega)
      have p2 := mul_bd (A := 1) (B := 100000) hsb hyb (by omega)
      have p3 := mul_bd (a := s * y) (A := 100000) (B := 1000) (by omega) (show -1000 ≤ xd ∧ xd ≤ 1000 by omega) (by omega)
      obtain ⟨P, hP⟩ : ∃ P, x * yd = P := ⟨_, rfl⟩
      obtain ⟨Q, hQ⟩ : ∃ Q, s * y = Q := ⟨_, rfl⟩
      rw [hP] at p1
      rw [hQ] at p2 p3
      obtain ⟨R, hR⟩ : ∃ R, Q * xd = R := ⟨_, rfl⟩
      rw [hR] at p3
      obtain ⟨T, hT⟩ : ∃ T, P + R = T := ⟨_, rfl⟩
      have hTZ : tpZ x y xd yd s = T := by unfold tpZ; rw [hP, hQ, hR, hT]
      have e1 : IntKind.i64.wrap P = P := IntWalk.i64_in _ (by omega)
      have e2 : IntKind.i64.wrap Q = Q := IntWalk.i64_in _ (by omega)
      have e3 : IntKind.i64.wrap R = R := IntWalk.i64_in _ (by omega)
      have e4 : IntKind.i64.wrap T = T := IntWalk.i64_in _ (by omega)
      have HTZ := Lib.hid hTZ
      have kp0 : (wr.setCell ⟨B3, i, none⟩ (.int .i64 T)).drew.cell? ⟨w.heap.size, i, none⟩ = some (.int .i64 x) := (HRX.out.other (.int .i64 T) nb0).cell (at7 (d := xd) hx)
      have kp1 : (wr.setCell ⟨B3, i, none⟩ (.int .i64 T)).drew.cell? ⟨w.heap.size, 6, none⟩ = some (.int .i64 xd) := (HRX.out.other (.int .i64 T) nb0).cell (i := 6) rfl
      have kp2 : (wr.setCell ⟨B3, i, none⟩ (.int .i64 T)).drew.cell? ⟨w.heap.size + 1, i, none⟩ = some (.int .i64 y) := (HRY.out.other (.int .i64 T) nb1).cell (at7 (d := yd) hy)
      have kp3 : (wr.setCell ⟨B3, i, none⟩ (.int .i64 T)).drew.cell? ⟨w.heap.size + 1, 6, none⟩ = some (.int .i64 yd) := (HRY.out.other (.int .i64 T) nb1).cell (i := 6) rfl
      clear hx hy ho hset hTZ HDE
      go_wp2
      go_region_held3 (fun w' => w'.cell? ⟨w.heap.size, i, none⟩ = some (.int .i64 x) ∧ w'.cell? ⟨w.heap.size, 6, none⟩ = some (.int .i64 xd) ∧ w'.cell? ⟨w.heap.size + 1, i, none⟩ = some (.int .i64 y) ∧ w'.cell? ⟨w.heap.size + 1, 6, none⟩ = some (.int .i64 yd)) (first | (refine ⟨?_, ?_, ?_, ?_⟩ <;> with_reducible assumption) | go_keep) (fail)
      go_wp2
      refine ⟨⟨i + 1, by omega, by go_num, ?_, ?_, ?_, ?_, ?_⟩, by simp [intOf]; omega⟩
      · exact HRX.out.other _ nb0
      · exact HRY.out.other _ nb1
      · exact HR3.out.other _ nb2
      · have h := HR4.out.set i T
        rw [← HTZ.out, HSET.out, HTZ.out] at h
        exact h
      · exact (HB.out.setCell (by show w.heap.size ≤ B3; omega) _).drew
    · obtain rfl : i = 6 := by omega
      have hl6 : mixL (tpL [x0, x1, x2, x3, x4, x5] [y0, y1, y2, y3, y4, y5] xd yd s) zero6 6 = [tpZ x0 y0 xd yd s, tpZ x1 y1 xd yd s, tpZ x2 y2 xd yd s, tpZ x3 y3 xd yd s, tpZ x4 y4 xd yd s, tpZ x5 y5 xd yd s] := rfl
      have hrow := HR4.out
      rw [hl6] at hrow
      clear HR4 hl6
      generalize tpZ x0 y0 xd yd s = z0 at *
      generalize tpZ x1 y1 xd yd s = z1 at *
      generalize tpZ x2 y2 xd yd s = z2 at *
      generalize tpZ x3 y3 xd yd s = z3 at *
      generalize tpZ x4 y4 xd yd s = z4 at *
      generalize tpZ x5 y5 xd yd s = z5 at *
      have m0 := hrow.cell (i := 0) (x := z0) rfl
      have m1 := hrow.cell (i := 1) (x := z1) rfl
      have m2 := hrow.cell (i := 2) (x := z2) rfl
      have m3 := hrow.cell (i := 3) (x := z3) rfl
      have m4 := hrow.cell (i := 4) (x := z4) rfl
      have m5 := hrow.cell (i := 5) (x := z5) rfl
      have hDE := HDE.out
      have hz2 := HB.out.size
      clear hrow
      go_wp2_with fail
      refine (HMA.out _).mono ?_
      rintro e w3 ⟨he, hb3⟩
      clear hDE HDE HMA m0 m1 m2 m3 m4 m5 kxd kyd
      obtain ⟨⟨⟨r0, r1, r2, r3, r4, r5⟩, rd⟩, re⟩ := RW
      unfold rtv at he
      simp only at he
      subst he
      have hr3 := HR3.out.up hb3
      have hb := HB.out.trans (hb3.mono hz2)
      clear HR3 HB hb3
      have HR3 := Lib.hid hr3
      have HB := Lib.hid hb
      clear hr3 hb
      obtain ⟨c0, c1, c2, c3, c4, c5, c6⟩ := HR3.out.r7
      simp only [Nat.zero_add] at c0 c1 c2 c3 c4 c5 c6
      have f0 := HR3.out.frozen 0
      have f1 := HR3.out.frozen 1
      have f2 := HR3.out.frozen 2
      have f3 := HR3.out.frozen 3
      have f4 := HR3.out.frozen 4
      have f5 := HR3.out.frozen 5
      have f6 := HR3.out.frozen 6
      go_wp2
      change bodyPost _ _ _ _ _ (putR w3 (w.heap.size + 1 + 1) r0 r1 r2 r3 r4 r5 rd)
      clear c0 c1 c2 c3 c4 c5 c6
      obtain ⟨c0, c1, c2, c3, c4, c5, c6⟩ := (putR_row HR3.out r0 r1 r2 r3 r4 r5 rd).r7
      have hB := putR_below HB.out (show w.heap.size ≤ w.heap.size + 1 + 1 by omega) r0 r1 r2 r3 r4 r5 rd
      generalize putR w3 (w.heap.size + 1 + 1) r0 r1 r2 r3 r4 r5 rd = W' at *
      simp only [Nat.zero_add] at c0 c1 c2 c3 c4 c5 c6
      refine bodyPost_ret (v := .tuple #[.agg #[.int .i64 r0, .int .i64 r1, .int .i64 r2, .int .i64 r3, .int .i64 r4, .int .i64 r5, .int .i64 rd], .int .i64 re]) (by simp [results, Tryd.results54, c0, c1, c2, c3, c4, c5, c6, go_sem]) rfl ⟨?_, hB⟩
      rfl

set_option maxRecDepth 100000 in
set_option maxHeartbeats 1000000 in
theorem rMul_any (x0 x1 x2 x3 x4 x5 xd y0 y1 y2 y3 y4 y5 yd : Int) (w : World) :
    Calls Tryd.prog 20 #[.agg #[.int .i64 x0, .int .i64 x1, .int .i64 x2, .int .i64 x3, .int .i64 x4, .int .i64 x5, .int .i64 xd], .agg #[.int .i64 y0, .int .i64 y1, .int .i64 y2, .int .i64 y3, .int .i64 y4, .int .i64 y5, .int .i64 yd]] w (RtPost w (bothW ⟨⟨x0, x1, x2, x3, x4, x5⟩, xd⟩ ⟨⟨y0, y1, y2, y3, y4, y5⟩, yd⟩ (1))) := by
  have hbo := fun W => both_any x0 x1 x2 x3 x4 x5 xd y0 y1 y2 y3 y4 y5 yd (1) W (by omega)
  have HBO := Lib.hid hbo
  clear hbo
  generalize bothW ⟨⟨x0, x1, x2, x3, x4, x5⟩, xd⟩ ⟨⟨y0, y1, y2, y3, y4, y5⟩, yd⟩ (1) = RW at *
  go_enter Tryd.func20, Tryd.ntmps20
  have hr3 : RowI (((w.alloc (.cells #[.int .i64 x0, .int .i64 x1, .int .i64 x2, .int .i64 x3, .int .i64 x4, .int .i64 x5, .int .i64 xd] 24)).alloc (.cells #[.int .i64 y0, .int .i64 y1, .int .i64 y2, .int .i64 y3, .int .i64 y4, .int .i64 y5, .int .i64 yd] 24)).alloc (.cells #[.int .i64 0, .int .i64 0, .int .i64 0, .int .i64 0, .int .i64 0, .int .i64 0, .int .i64 0] 24)) (w.heap.size + 1 + 1) 24 [0, 0, 0, 0, 0, 0, 0] := by
    have h := RowI.of_alloc ((w.alloc (.cells #[.int .i64 x0, .int .i64 x1, .int .i64 x2, .int .i64 x3, .int .i64 x4, .int .i64 x5, .int .i64 xd] 24)).alloc (.cells #[.int .i64 y0, .int .i64 y1, .int .i64 y2, .int .i64 y3, .int .i64 y4, .int .i64 y5, .int .i64 yd] 24)) 24 [0, 0, 0, 0, 0, 0, 0]
    rw [World.size_alloc, World.size_alloc] at h
    exact h
  have hb0 := ((belA w (.cells #[.int .i64 x0, .int .i64 x1, .int .i64 x2, .int .i64 x3, .int .i64 x4, .int .i64 x5, .int .i64 xd] 24)).alloc (by simp) (.cells #[.int .i64 y0, .int .i64 y1, .int .i64 y2, .int .i64 y3, .int .i64 y4, .int .i64 y5, .int .i64 yd] 24)).alloc (by simp; omega) (.cells #[.int .i64 0, .int .i64 0, .int .i64 0, .int .i64 0, .int .i64 0, .int .i64 0, .int .i64 0] 24)
  have HR := Lib.hid hr3
  have HB0 := Lib.hid hb0
  clear hr3 hb0
  go_wp2_with fail
  refine (HBO.out _).mono ?_
  rintro e w1 ⟨he, hb1⟩
  obtain ⟨⟨⟨r0, r1, r2, r3, r4, r5⟩, rd⟩, re⟩ := RW
  unfold rtv at he
  simp only at he
  subst he
  have hr3 := HR.out.up hb1
  have hb := HB0.out.trans (hb1.mono (by simp; omega))
  clear HR HB0 hb1 HBO
  have HR3 := Lib.hid hr3
  have HB := Lib.hid hb
  clear hr3 hb
  obtain ⟨c0, c1, c2, c3, c4, c5, c6⟩ := HR3.out.r7
  simp only [Nat.zero_add] at c0 c1 c2 c3 c4 c5 c6
  have f0 := HR3.out.frozen 0
  have f1 := HR3.out.frozen 1
  have f2 := HR3.out.frozen 2
  have f3 := HR3.out.frozen 3
  have f4 := HR3.out.frozen 4
  have f5 := HR3.out.frozen 5
  have f6 := HR3.out.frozen 6
  go_wp2
  change bodyPost _ _ _ _ _ (putR w1 (w.heap.size + 1 + 1) r0 r1 r2 r3 r4 r5 rd)
  clear c0 c1 c2 c3 c4 c5 c6
  obtain ⟨c0, c1, c2, c3, c4, c5, c6⟩ := (putR_row HR3.out r0 r1 r2 r3 r4 r5 rd).r7
  have hB := putR_below HB.out (show w.heap.size ≤ w.heap.size + 1 + 1 by omega) r0 r1 r2 r3 r4 r5 rd
  generalize putR w1 (w.heap.size + 1 + 1) r0 r1 r2 r3 r4 r5 rd = W' at *
  simp only [Nat.zero_add] at c0 c1 c2 c3 c4 c5 c6
  refine bodyPost_ret (v := .tuple #[.agg #[.int .i64 r0, .int .i64 r1, .int .i64 r2, .int .i64 r3, .int .i64 r4, .int .i64 r5, .int .i64 rd], .int .i64 re]) (by simp [results, Tryd.results20, c0, c1, c2, c3, c4, c5, c6, go_sem]) rfl ⟨?_, hB⟩
  rfl

end Go.Proofs.YtkoghdgfllichaaDoor
namespace Go.Proofs.YtkoghdgfllichaaDoor
open Go.RowKit

theorem low_neg (v : V6) {d : Int} (hd : d ≠ 0) : lowW (V6.scl (-1) v) (-d) = lowW v d := by
  have hg : (V6.scl (-1) v).g (-d) = v.g d := by
    have h := gl_scl (-1) v.l d.natAbs
    rw [← V6.scl_l] at h
    unfold V6.g
    rw [Int.natAbs_neg]
    simpa using h
  have hgs : (V6.scl (-1) v).gs (-d) = -(v.gs d) := by
    unfold V6.gs
    rw [hg]
    by_cases h : d < 0
    · rw [if_pos h, if_neg (by omega)]; omega
    · rw [if_neg h, if_pos (by omega)]
  have hlo : lowR (V6.scl (-1) v) (-d) = lowR v d := by
    unfold lowR
    rw [hgs]
    refine Rt.eq ?_ ?_
    · unfold V6.quo V6.scl
      refine V6.eq ?_ ?_ ?_ ?_ ?_ ?_ <;> simp only [Int.neg_one_mul, Int.neg_tdiv, Int.tdiv_neg, Int.neg_neg]
    · simp only [Int.neg_tdiv, Int.tdiv_neg, Int.neg_neg]
  unfold lowW
  rw [hlo]
def RpRel (w : World) (B3 k : Int) (A3 : Nat) (X : List Int) (xd : Int) (iv : Value) (wr : World) : Prop :=
  ∃ i : Nat, i ≤ 6 ∧ iv = .int .i64 (i : Int) ∧ RowI wr w.heap.size 24 (X ++ [xd]) ∧ RowI wr (w.heap.size + 1) 24 [0, 0, 0, 0, 0, 0, 0] ∧ RowI wr A3 80 (mixL (X.map (· * k)) zero6 i) ∧ Below w.heap.size w wr
set_option maxRecDepth 100000 in
set_option maxHeartbeats 8000000 in
theorem rPow_any (x0 x1 x2 x3 x4 x5 xd n d : Int) (w : World) :
    Calls Tryd.prog 21 #[.agg #[.int .i64 x0, .int .i64 x1, .int .i64 x2, .int .i64 x3, .int .i64 x4, .int .i64 x5, .int .i64 xd], .int .i64 n, .int .i64 d] w (RtPost w (rpowW ⟨⟨x0, x1, x2, x3, x4, x5⟩, xd⟩ n d)) := by
  have hW : rpowW ⟨⟨x0, x1, x2, x3, x4, x5⟩, xd⟩ n d = if Rt.err ⟨⟨x0, x1, x2, x3, x4, x5⟩, xd⟩ = 0 then (if -1000 ≤ n ∧ n ≤ 1000 ∧ -1000 ≤ d ∧ d ≤ 1000 ∧ d ≠ 0 then lowW (V6.scl n ⟨x0, x1, x2, x3, x4, x5⟩) (xd * d) else (Rt.zero, 2)) else (Rt.zero, Rt.err ⟨⟨x0, x1, x2, x3, x4, x5⟩, xd⟩) := rfl
  have hokx := fun h => (Rt.ok_iff (r := ⟨⟨x0, x1, x2, x3, x4, x5⟩, xd⟩)).1 h
  have hcx := fun W => rCheck_any x0 x1 x2 x3 x4 x5 xd W
  have HOX := Lib.hid hokx
  clear hokx
  generalize rpowW ⟨⟨x0, x1, x2, x3, x4, x5⟩, xd⟩ n d = RW at *
  have HW := Lib.hid hW
  clear hW
  generalize hex : Rt.err ⟨⟨x0, x1, x2, x3, x4, x5⟩, xd⟩ = ex at *
  have HCX := Lib.hid hcx
  clear hex hcx
  go_enter Tryd.func21, Tryd.ntmps21
  have hr2 : RowI ((w.alloc (.cells #[.int .i64 x0, .int .i64 x1, .int .i64 x2, .int .i64 x3, .int .i64 x4, .int .i64 x5, .int .i64 xd] 24)).alloc (.cells #[.int .i64 0, .int .i64 0, .int .i64 0, .int .i64 0, .int .i64 0, .int .i64 0, .int .i64 0] 24)) (w.heap.size + 1) 24 [0, 0, 0, 0, 0, 0, 0] := by
    have h := RowI.of_alloc (w.alloc (.cells #[.int .i64 x0, .int .i64 x1, .int .i64 x2, .int .i64 x3, .int .i64 x4, .int .i64 x5, .int .i64 xd] 24)) 24 [0, 0, 0, 0, 0, 0, 0]
    rw [World.size_alloc] at h
    exact h
  have hr1 : RowI ((w.alloc (.cells #[.int .i64 x0, .int .i64 x1, .int .i64 x2, .int .i64 x3, .int .i64 x4, .int .i64 x5, .int .i64 xd] 24)).alloc (.cells #[.int .i64 0, .int .i64 0, .int .i64 0, .int .i64 0, .int .i64 0, .int .i64 0, .int .i64 0] 24)) w.heap.size 24 [x0, x1, x2, x3, x4, x5, xd] := (RowI.of_alloc w 24 [x0, x1, x2, x3, x4, x5, xd]).alloc _
  have hb0 := (belA w (.cells #[.int .i64 x0, .int .i64 x1, .int .i64 x2, .int .i64 x3, .int .i64 x4, .int .i64 x5, .int .i64 xd] 24)).alloc (by simp) (.cells #[.int .i64 0, .int .i64 0, .int .i64 0, .int .i64 0, .int .i64 0, .int .i64 0, .int .i64 0] 24)
  have HR1 := Lib.hid hr1
  have HR3 := Lib.hid hr2
  have HB0 := Lib.hid hb0
  clear hr1 hr2 hb0
  go_wp2_with fail
  refine (HCX.out _).mono ?_
  rintro e w1 ⟨he, hb1⟩
  subst he
  have hr1 := HR1.out.up hb1
  have hr3 := HR3.out.up hb1
  have hb := HB0.out.trans (hb1.mono (by simp; omega))
  clear HR1 HR3 HB0 hb1 HCX
  have HR1 := Lib.hid hr1
  have HR3 := Lib.hid hr3
  have HB := Lib.hid hb
  have hz := hb.size
  have hlt := hr3.lt
  clear hr1 hr3 hb
  by_cases hx0 : ex = 0
  case neg =>
    have hxb : (ex != 0) = true := by simp [hx0]
    have hWE := HW.out
    rw [if_neg hx0] at hWE
    have HWE := Lib.hid hWE
    clear hWE HW
    obtain ⟨c0, c1, c2, c3, c4, c5, c6⟩ := HR3.out.r7
    simp only [Nat.zero_add] at c0 c1 c2 c3 c4 c5 c6
    have f0 := HR3.out.frozen 0
    have f1 := HR3.out.frozen 1
    have f2 := HR3.out.frozen 2
    have f3 := HR3.out.frozen 3
    have f4 := HR3.out.frozen 4
    have f5 := HR3.out.frozen 5
    have f6 := HR3.out.frozen 6
    go_wp2
    change bodyPost _ _ _ _ _ (putR w1 (w.heap.size + 1) 0 0 0 0 0 0 0)
    clear c0 c1 c2 c3 c4 c5 c6
    obtain ⟨c0, c1, c2, c3, c4, c5, c6⟩ := (putR_row HR3.out 0 0 0 0 0 0 0).r7
    have hB := putR_below HB.out (show w.heap.size ≤ w.heap.size + 1 by omega) 0 0 0 0 0 0 0
    generalize putR w1 (w.heap.size + 1) 0 0 0 0 0 0 0 = W' at *
    simp only [Nat.zero_add] at c0 c1 c2 c3 c4 c5 c6
    refine bodyPost_ret (v := .tuple #[.agg #[.int .i64 0, .int .i64 0, .int .i64 0, .int .i64 0, .int .i64 0, .int .i64 0, .int .i64 0], .int .i64 ex]) (by simp [results, Tryd.results21, c0, c1, c2, c3, c4, c5, c6, go_sem]) rfl ⟨?_, hB⟩
    rw [HWE.out]
    rfl
  subst hx0
  have hWE := HW.out
  rw [if_pos rfl] at hWE
  by_cases hgood : -1000 ≤ n ∧ n ≤ 1000 ∧ -1000 ≤ d ∧ d ≤ 1000 ∧ d ≠ 0
  case neg =>
    rw [if_neg hgood] at hWE
    have HWE := Lib.hid hWE
    clear hWE HW
    by_cases n1 : n < -1000
    · clear hgood
      obtain ⟨c0, c1, c2, c3, c4, c5, c6⟩ := HR3.out.r7
      simp only [Nat.zero_add] at c0 c1 c2 c3 c4 c5 c6
      have f0 := HR3.out.frozen 0
      have f1 := HR3.out.frozen 1
      have f2 := HR3.out.frozen 2
      have f3 := HR3.out.frozen 3
      have f4 := HR3.out.frozen 4
      have f5 := HR3.out.frozen 5
      have f6 := HR3.out.frozen 6
      go_wp2
      change bodyPost _ _ _ _ _ (putR w1 (w.heap.size + 1) 0 0 0 0 0 0 0)
      clear c0 c1 c2 c3 c4 c5 c6
      obtain ⟨c0, c1, c2, c3, c4, c5, c6⟩ := (putR_row HR3.out 0 0 0 0 0 0 0).r7
      have hB := putR_below HB.out (show w.heap.size ≤ w.heap.size + 1 by omega) 0 0 0 0 0 0 0
      generalize putR w1 (w.heap.size + 1) 0 0 0 0 0 0 0 = W' at *
      simp only [Nat.zero_add] at c0 c1 c2 c3 c4 c5 c6
      refine bodyPost_ret (v := .tuple #[.agg #[.int .i64 0, .int .i64 0, .int .i64 0, .int .i64 0, .int .i64 0, .int .i64 0, .int .i64 0], .int .i64 2]) (by simp [results, Tryd.results21, c0, c1, c2, c3, c4, c5, c6, go_sem]) rfl ⟨?_, hB⟩
      rw [HWE.out]
      rfl
    by_cases n2 : 1000 < n
    · clear hgood
      obtain ⟨c0, c1, c2, c3, c4, c5, c6⟩ := HR3.out.r7
      simp only [Nat.zero_add] at c0 c1 c2 c3 c4 c5 c6
      have f0 := HR3.out.frozen 0
      have f1 := HR3.out.frozen 1
      have f2 := HR3.out.frozen 2
      have f3 := HR3.out.frozen 3
      have f4 := HR3.out.frozen 4
      have f5 := HR3.out.frozen 5
      have f6 := HR3.out.frozen 6
      go_wp2
      change bodyPost _ _ _ _ _ (putR w1 (w.heap.size + 1) 0 0 0 0 0 0 0)
      clear c0 c1 c2 c3 c4 c5 c6
      obtain ⟨c0, c1, c2, c3, c4, c5, c6⟩ := (putR_row HR3.out 0 0 0 0 0 0 0).r7
      have hB := putR_below HB.out (show w.heap.size ≤ w.heap.size + 1 by omega) 0 0 0 0 0 0 0
      generalize putR w1 (w.heap.size + 1) 0 0 0 0 0 0 0 = W' at *
      simp only [Nat.zero_add] at c0 c1 c2 c3 c4 c5 c6
      refine bodyPost_ret (v := .tuple #[.agg #[.int .i64 0, .int .i64 0, .int .i64 0, .int .i64 0, .int .i64 0, .int .i64 0, .int .i64 0], .int .i64 2]) (by simp [results, Tryd.results21, c0, c1, c2, c3, c4, c5, c6, go_sem]) rfl ⟨?_, hB⟩
      rw [HWE.out]
      rfl
    by_cases d1 : d < -1000
    · clear hgood
      obtain ⟨c0, c1, c2, c3, c4, c5, c6⟩ := HR3.out.r7
      simp only [Nat.zero_add] at c0 c1 c2 c3 c4 c5 c6
      have f0 := HR3.out.frozen 0
      have f1 := HR3.out.frozen 1
      have f2 := HR3.out.frozen 2
      have f3 := HR3.out.frozen 3
      have f4 := HR3.out.frozen 4
      have f5 := HR3.out.frozen 5
      have f6 := HR3.out.frozen 6
      go_wp2
      change bodyPost _ _ _ _ _ (putR w1 (w.heap.size + 1) 0 0 0 0 0 0 0)
      clear c0 c1 c2 c3 c4 c5 c6
      obtain ⟨c0, c1, c2, c3, c4, c5, c6⟩ := (putR_row HR3.out 0 0 0 0 0 0 0).r7
      have hB := putR_below HB.out (show w.heap.size ≤ w.heap.size + 1 by omega) 0 0 0 0 0 0 0
      generalize putR w1 (w.heap.size + 1) 0 0 0 0 0 0 0 = W' at *
      simp only [Nat.zero_add] at c0 c1 c2 c3 c4 c5 c6
      refine bodyPost_ret (v := .tuple #[.agg #[.int .i64 0, .int .i64 0, .int .i64 0, .int .i64 0, .int .i64 0, .int .i64 0, .int .i64 0], .int .i64 2]) (by simp [results, Tryd.results21, c0, c1, c2, c3, c4, c5, c6, go_sem]) rfl ⟨?_, hB⟩
      rw [HWE.out]
      rfl
    by_cases d2 : 1000 < d
    · clear hgood
      obtain ⟨c0, c1, c2, c3, c4, c5, c6⟩ := HR3.out.r7
      simp only [Nat.zero_add] at c0 c1 c2 c3 c4 c5 c6
      have f0 := HR3.out.frozen 0
      have f1 := HR3.out.frozen 1
      have f2 := HR3.out.frozen 2
      have f3 := HR3.out.frozen 3
      have f4 := HR3.out.frozen 4
      have f5 := HR3.out.frozen 5
      have f6 := HR3.out.frozen 6
      go_wp2
      change bodyPost _ _ _ _ _ (putR w1 (w.heap.size + 1) 0 0 0 0 0 0 0)
      clear c0 c1 c2 c3 c4 c5 c6
      obtain ⟨c0, c1, c2, c3, c4, c5, c6⟩ := (putR_row HR3.out 0 0 0 0 0 0 0).r7
      have hB := putR_below HB.out (show w.heap.size ≤ w.heap.size + 1 by omega) 0 0 0 0 0 0 0
      generalize putR w1 (w.heap.size + 1) 0 0 0 0 0 0 0 = W' at *
      simp only [Nat.zero_add] at c0 c1 c2 c3 c4 c5 c6
      refine bodyPost_ret (v := .tuple #[.agg #[.int .i64 0, .int .i64 0, .int .i64 0, .int .i64 0, .int .i64 0, .int .i64 0, .int .i64 0], .int .i64 2]) (by simp [results, Tryd.results21, c0, c1, c2, c3, c4, c5, c6, go_sem]) rfl ⟨?_, hB⟩
      rw [HWE.out]
      rfl
    have d0 : d = 0 := by omega
    subst d0
    clear hgood
    obtain ⟨c0, c1, c2, c3, c4, c5, c6⟩ := HR3.out.r7
    simp only [Nat.zero_add] at c0 c1 c2 c3 c4 c5 c6
    have f0 := HR3.out.frozen 0
    have f1 := HR3.out.frozen 1
    have f2 := HR3.out.frozen 2
    have f3 := HR3.out.frozen 3
    have f4 := HR3.out.frozen 4
    have f5 := HR3.out.frozen 5
    have f6 := HR3.out.frozen 6
    go_wp2
    change bodyPost _ _ _ _ _ (putR w1 (w.heap.size + 1) 0 0 0 0 0 0 0)
    clear c0 c1 c2 c3 c4 c5 c6
    obtain ⟨c0, c1, c2, c3, c4, c5, c6⟩ := (putR_row HR3.out 0 0 0 0 0 0 0).r7
    have hB := putR_below HB.out (show w.heap.size ≤ w.heap.size + 1 by omega) 0 0 0 0 0 0 0
    generalize putR w1 (w.heap.size + 1) 0 0 0 0 0 0 0 = W' at *
    simp only [Nat.zero_add] at c0 c1 c2 c3 c4 c5 c6
    refine bodyPost_ret (v := .tuple #[.agg #[.int .i64 0, .int .i64 0, .int .i64 0, .int .i64 0, .int .i64 0, .int .i64 0, .int .i64 0], .int .i64 2]) (by simp [results, Tryd.results21, c0, c1, c2, c3, c4, c5, c6, go_sem]) rfl ⟨?_, hB⟩
    rw [HWE.out]
    rfl
  rw [if_pos hgood] at hWE
  obtain ⟨n1, n2, d1, d2, d0⟩ := hgood
  have n1' : ¬ n < -1000 := by omega
  have n2' : ¬ 1000 < n := by omega
  have d1' : ¬ d < -1000 := by omega
  have d2' : ¬ 1000 < d := by omega
  have d0b : (d == 0) = false := beq_false_of_ne d0
  have okx := HOX.out rfl
  obtain ⟨bx0, bx1, bx2, bx3, bx4, bx5, bxd⟩ := okx.nums
  simp only at bx0 bx1 bx2 bx3 bx4 bx5 bxd
  -- the exponent and the root as they are used: k / D, D above 0
  obtain ⟨k, D0, hkD, hD0, hk1, hk2, hD1, hlow⟩ : ∃ k D0 : Int, (d < 0 → k = -n ∧ D0 = -d) ∧ (¬ d < 0 → k = n ∧ D0 = d) ∧ -1000 ≤ k ∧ k ≤ 1000 ∧ (1 ≤ D0 ∧ D0 ≤ 1000) ∧ lowW ⟨x0 * k, x1 * k, x2 * k, x3 * k, x4 * k, x5 * k⟩ (xd * D0) = lowW (V6.scl n ⟨x0, x1, x2, x3, x4, x5⟩) (xd * d) := by
    by_cases h : d < 0
    · refine ⟨-n, -d, fun _ => ⟨rfl, rfl⟩, fun h2 => absurd h h2, by omega, by omega, by omega, ?_⟩
      rw [← low_neg (V6.scl n ⟨x0, x1, x2, x3, x4, x5⟩) (Int.mul_ne_zero (show xd ≠ 0 by omega) d0), show xd * -d = -(xd * d) from Int.mul_neg xd d]
      congr 1
      unfold V6.scl
      refine V6.eq ?_ ?_ ?_ ?_ ?_ ?_ <;> simp only <;> grind
    · refine ⟨n, d, fun h2 => absurd h2 h, fun _ => ⟨rfl, rfl⟩, n1, n2, by omega, ?_⟩
      congr 1
      unfold V6.scl
      refine V6.eq ?_ ?_ ?_ ?_ ?_ ?_ <;> simp only <;> exact Int.mul_comm _ _
  rw [← hlow] at hWE
  have hxl : ∀ m ∈ [x0, x1, x2, x3, x4, x5], -100000 ≤ m ∧ m ≤ 100000 := by
    simp only [List.mem_cons, List.not_mem_nil, or_false, forall_eq_or_imp, forall_eq]
    exact ⟨bx0, bx1, bx2, bx3, bx4, bx5⟩
  have hzl : ∀ m ∈ [x0 * k, x1 * k, x2 * k, x3 * k, x4 * k, x5 * k], -1000000000 ≤ m ∧ m ≤ 1000000000 := by
    simp only [List.mem_cons, List.not_mem_nil, or_false, forall_eq_or_imp, forall_eq]
    have q : ∀ y : Int, -100000 ≤ y ∧ y ≤ 100000 → -1000000000 ≤ y * k ∧ y * k ≤ 1000000000 := fun y hy => by
      have := mul_bd (A := 100000) (B := 1000) hy ⟨hk1, hk2⟩ (by omega)
      omega
    exact ⟨q _ bx0, q _ bx1, q _ bx2, q _ bx3, q _ bx4, q _ bx5⟩
  have hdd := mul_bd (a := xd) (b := D0) (A := 1000) (B := 1000) (by omega) (by omega) (by omega)
  have hdp : 0 < xd * D0 := Int.mul_pos (by omega) (by omega)
  obtain ⟨D, hD⟩ : ∃ D : Nat, xd * D0 = (D : Int) := ⟨(xd * D0).toNat, by omega⟩
  have hma := fun W => made_any (x0 * k) (x1 * k) (x2 * k) (x3 * k) (x4 * k) (x5 * k) D W (by omega) (by omega) hzl
  rw [← hD, ← hWE] at hma
  rw [hD] at hma
  have eD : IntKind.i64.wrap (D : Int) = (D : Int) := IntWalk.i64_in _ (by omega)
  have HMA := Lib.hid hma
  have HXL := Lib.hid hxl
  have HDE := Lib.hid hD
  have HKD := Lib.hid hkD
  have HD0 := Lib.hid hD0
  clear hma hxl hzl hWE HW okx bx0 bx1 bx2 bx3 bx4 bx5 HOX hD hkD hD0 hdd hdp hlow
  by_cases hneg : d < 0
  case' pos =>
    obtain ⟨hk, hDD⟩ := HKD.out hneg
    have hk' : -n = k := hk.symm
    have hDD' : -d = D0 := hDD.symm
    clear hk hDD
    go_wp2
  case' neg =>
    obtain ⟨hk, hDD⟩ := HD0.out hneg
    subst hk hDD
    go_wp2
  all_goals
    have hr1 := HR1.out.alloc (.cells #[.int .i64 0, .int .i64 0, .int .i64 0, .int .i64 0, .int .i64 0, .int .i64 0] 80)
    have hr3 := HR3.out.alloc (.cells #[.int .i64 0, .int .i64 0, .int .i64 0, .int .i64 0, .int .i64 0, .int .i64 0] 80)
    have hr4 : RowI (w1.alloc (.cells #[.int .i64 0, .int .i64 0, .int .i64 0, .int .i64 0, .int .i64 0, .int .i64 0] 80)) w1.heap.size 80 (mixL ([x0, x1, x2, x3, x4, x5].map (· * k)) zero6 0) := RowI.of_alloc w1 80 zero6
    have hb := HB.out.trans ((belA w1 (.cells #[.int .i64 0, .int .i64 0, .int .i64 0, .int .i64 0, .int .i64 0, .int .i64 0] 80)).mono hz)
    clear HR1 HR3 HB
    generalize hB3 : w1.heap.size = B3 at *
    clear hB3
    generalize w1.alloc (.cells #[.int .i64 0, .int .i64 0, .int .i64 0, .int .i64 0, .int .i64 0, .int .i64 0] 80) = W2 at *
    have HR1 := Lib.hid hr1
    have HR3 := Lib.hid hr3
    have HR4 := Lib.hid hr4
    have HB := Lib.hid hb
    clear hr1 hr3 hr4 hb
    go_loopw [10] (fun iv wr => RpRel w 0 k B3 [x0, x1, x2, x3, x4, x5] xd iv wr) (fun iv _ => 6 - (intOf iv).toNat)
    case atStart => exact ⟨0, Nat.zero_le _, rfl, HR1.out, HR3.out, HR4.out, HB.out⟩
    case round =>
      clear HR1 HR3 HR4 HB
      obtain ⟨i, hi, rfl, hrx, hr3, hr4, hb⟩ := hrel
      have HRX := Lib.hid hrx
      have HR3 := Lib.hid hr3
      have HR4 := Lib.hid hr4
      have HB := Lib.hid hb
      clear hrx hr3 hr4 hb
      have nb0 : w.heap.size ≠ B3 := by omega
      have nb1 : w.heap.size + 1 ≠ B3 := by omega
      by_cases hil : i < 6
      · obtain ⟨x, hx⟩ : ∃ x, [x0, x1, x2, x3, x4, x5][i]? = some x := ⟨[x0, x1, x2, x3, x4, x5][i], List.getElem?_eq_getElem _⟩
        have hxb := HXL.out x (List.mem_of_getElem? hx)
        have kx := HRX.out.cell (at7 (d := xd) hx)
        obtain ⟨o, ho⟩ := mixL_at (Z := [x0, x1, x2, x3, x4, x5].map (· * k)) (O := zero6) (i := i) rfl hil
        have kz := HR4.out.cell ho
        have fz := HR4.out.frozen i
        have hset := mixL_set (Z := [x0, x1, x2, x3, x4, x5].map (· * k)) (O := zero6) (i := i) rfl (map_at hx)
        have hilI : (i : Int) < 6 := by omega
        have hiI : (0 : Int) ≤ (i : Int) := by omega
        have p1 := mul_bd (A := 100000) (B := 1000) hxb ⟨hk1, hk2⟩ (by omega)
        obtain ⟨T, hT⟩ : ∃ T, x * k = T := ⟨_, rfl⟩
        rw [hT] at p1
        simp only [hT] at hset
        have e4 : IntKind.i64.wrap T = T := IntWalk.i64_in _ (by omega)
        have HSET := Lib.hid hset
        clear hx ho hset
        go_wp2
        refine ⟨⟨i + 1, by omega, by go_num, HRX.out.other _ nb0, HR3.out.other _ nb1, ?_, HB.out.setCell (by show w.heap.size ≤ B3; omega) _⟩, by simp [intOf]; omega⟩
        have h := HR4.out.set i T
        rw [HSET.out] at h
        exact h
      · obtain rfl : i = 6 := by omega
        have hl6 : mixL ([x0, x1, x2, x3, x4, x5].map (· * k)) zero6 6 = [x0 * k, x1 * k, x2 * k, x3 * k, x4 * k, x5 * k] := rfl
        have hrow := HR4.out
        rw [hl6] at hrow
        clear HR4 hl6
        generalize x0 * k = z0 at *
        generalize x1 * k = z1 at *
        generalize x2 * k = z2 at *
        generalize x3 * k = z3 at *
        generalize x4 * k = z4 at *
        generalize x5 * k = z5 at *
        have m0 := hrow.cell (i := 0) (x := z0) rfl
        have m1 := hrow.cell (i := 1) (x := z1) rfl
        have m2 := hrow.cell (i := 2) (x := z2) rfl
        have m3 := hrow.cell (i := 3) (x := z3) rfl
        have m4 := hrow.cell (i := 4) (x := z4) rfl
        have m5 := hrow.cell (i := 5) (x := z5) rfl
        have kxd := HRX.out.cell (i := 6) (x := xd) rfl
        have hDE := HDE.out
        have hz2 := HB.out.size
        clear hrow
        go_wp2_with fail
        refine (HMA.out _).mono ?_
        rintro e w3 ⟨he, hb3⟩
        clear hDE HDE HMA m0 m1 m2 m3 m4 m5 kxd
        obtain ⟨⟨⟨r0, r1, r2, r3, r4, r5⟩, rd⟩, re⟩ := RW
        unfold rtv at he
        simp only at he
        subst he
        have hr3 := HR3.out.up hb3
        have hb := HB.out.trans (hb3.mono hz2)
        clear HR3 HB hb3
        have HR3 := Lib.hid hr3
        have HB := Lib.hid hb
        clear hr3 hb
        obtain ⟨c0, c1, c2, c3, c4, c5, c6⟩ := HR3.out.r7
        simp only [Nat.zero_add] at c0 c1 c2 c3 c4 c5 c6
        have f0 := HR3.out.frozen 0
        have f1 := HR3.out.frozen 1
        have f2 := HR3.out.frozen 2
        have f3 := HR3.out.frozen 3
        have f4 := HR3.out.frozen 4
        have f5 := HR3.out.frozen 5
        have f6 := HR3.out.frozen 6
        go_wp2
        change bodyPost _ _ _ _ _ (putR w3 (w.heap.size + 1) r0 r1 r2 r3 r4 r5 rd)
        clear c0 c1 c2 c3 c4 c5 c6
        obtain ⟨c0, c1, c2, c3, c4, c5, c6⟩ := (putR_row HR3.out r0 r1 r2 r3 r4 r5 rd).r7
        have hB := putR_below HB.out (show w.heap.size ≤ w.heap.size + 1 by omega) r0 r1 r2 r3 r4 r5 rd
        generalize putR w3 (w.heap.size + 1) r0 r1 r2 r3 r4 r5 rd = W' at *
        simp only [Nat.zero_add] at c0 c1 c2 c3 c4 c5 c6
        refine bodyPost_ret (v := .tuple #[.agg #[.int .i64 r0, .int .i64 r1, .int .i64 r2, .int .i64 r3, .int .i64 r4, .int .i64 r5, .int .i64 rd], .int .i64 re]) (by simp [results, Tryd.results21, c0, c1, c2, c3, c4, c5, c6, go_sem]) rfl ⟨?_, hB⟩
        rfl

end Go.Proofs.YtkoghdgfllichaaDoor
namespace Go.Proofs.YtkoghdgfllichaaDoor
open Go.RowKit

set_option maxRecDepth 100000 in
theorem rPrimes_any (w : World) : Calls Tryd.prog 36 #[] w fun e w' => e = .returned (.slice (some ⟨w.heap.size, 0, none⟩) 6 6) ∧ RowI w' w.heap.size 2 psI ∧ Below w.heap.size w w' := by
  have hr := RowI.of_alloc w 2 psI
  have HR := Lib.hid (show RowI (w.alloc (.cells #[.int .i64 2, .int .i64 3, .int .i64 5, .int .i64 7, .int .i64 11, .int .i64 13] 2)) w.heap.size 2 psI from hr)
  have HB := Lib.hid (belA w (.cells #[.int .i64 2, .int .i64 3, .int .i64 5, .int .i64 7, .int .i64 11, .int .i64 13] 2))
  clear hr
  go_enter Tryd.func36, Tryd.ntmps36
  go_wp2
  go_ret
  exact ⟨rfl, HR.out, HB.out⟩
def TrRel (w : World) (W2 : World) (g : Nat) (X : List Int) (xd : Int) (v iv : Value) (wr : World) : Prop :=
  ∃ i : Nat, i ≤ 6 ∧ iv = .int .i64 (i : Int) ∧ RowT wr W2.heap.size v (nz (ps6.zip (X.take i))) ∧ Below W2.heap.size W2 wr
set_option maxRecDepth 100000 in
set_option maxHeartbeats 4000000 in
theorem rTerms_any (x0 x1 x2 x3 x4 x5 xd : Int) (w : World) :
    Calls Tryd.prog 40 #[.agg #[.int .i64 x0, .int .i64 x1, .int .i64 x2, .int .i64 x3, .int .i64 x4, .int .i64 x5, .int .i64 xd]] w (TePost w ⟨⟨x0, x1, x2, x3, x4, x5⟩, xd⟩) := by
  have hcx := fun W => rCheck_any x0 x1 x2 x3 x4 x5 xd W
  have hCt : ∀ e w', TePost w ⟨⟨x0, x1, x2, x3, x4, x5⟩, xd⟩ e w' = ((Rt.err ⟨⟨x0, x1, x2, x3, x4, x5⟩, xd⟩ = 0 ∧ ∃ v, e = .returned (.tuple #[v, .int .i64 xd, .int .i64 0]) ∧ RowT w' w.heap.size v (nz (V6.zl ⟨x0, x1, x2, x3, x4, x5⟩)) ∧ Below w.heap.size w w') ∨ (Rt.err ⟨⟨x0, x1, x2, x3, x4, x5⟩, xd⟩ ≠ 0 ∧ e = .returned (.tuple #[.slice none 0 0, .int .i64 0, .int .i64 (Rt.err ⟨⟨x0, x1, x2, x3, x4, x5⟩, xd⟩)]) ∧ Below w.heap.size w w')) := fun _ _ => rfl
  have HCT := Lib.hid hCt
  clear hCt
  generalize TePost w ⟨⟨x0, x1, x2, x3, x4, x5⟩, xd⟩ = Post at *
  generalize hee : Rt.err ⟨⟨x0, x1, x2, x3, x4, x5⟩, xd⟩ = E at *
  have HCX := Lib.hid hcx
  clear hee hcx
  have HR := Lib.hid (RowI.of_alloc w 24 [x0, x1, x2, x3, x4, x5, xd])
  have HB0 := Lib.hid (belA w (.cells #[.int .i64 x0, .int .i64 x1, .int .i64 x2, .int .i64 x3, .int .i64 x4, .int .i64 x5, .int .i64 xd] 24))
  go_enter Tryd.func40, Tryd.ntmps40
  go_wp2_with fail
  refine (HCX.out _).mono ?_
  rintro e w1 ⟨he, hb1⟩
  subst he
  have hr := HR.out.up hb1
  have hb := HB0.out.trans (hb1.mono (by simp))
  clear HR HB0 hb1 HCX
  have HR := Lib.hid hr
  have HB := Lib.hid hb
  have hz := hb.size
  clear hr hb
  by_cases hE0 : E = 0
  case neg =>
    have hEb : (E != 0) = true := by simp [hE0]
    have HE0 := Lib.hid hE0
    clear hE0
    go_wp2
    go_ret3
    rw [HCT.out]
    exact .inr ⟨HE0.out, rfl, HB.out⟩
  subst hE0
  go_wp2_with fail
  refine (rPrimes_any _).mono ?_
  rintro e w2 ⟨he, hpr, hb2⟩
  subst he
  have hr := HR.out.up hb2
  have hb := HB.out.trans (hb2.mono hz)
  have hlt := HR.out.lt
  have hltp := hpr.lt
  clear HR HB
  generalize hg : w1.heap.size = g at *
  clear hg
  have HR := Lib.hid hr
  have HB := Lib.hid hb
  have HP := Lib.hid hpr
  have hz2 := hb.size
  clear hr hb hpr hb2
  go_wp2
  go_loopw [6, 8] (fun v iv wr => TrRel w w2 g [x0, x1, x2, x3, x4, x5] xd v iv wr) (fun _ iv _ => 6 - (intOf iv).toNat)
  case atStart => exact ⟨0, Nat.zero_le _, rfl, RowT.nil _ _, Below.refl _ _⟩
  case round =>
    obtain ⟨i, hi, rfl, hrow, hb⟩ := hrel
    have HROW := Lib.hid hrow
    have hrr := HR.out.up hb
    have hpp := HP.out.up hb
    have HB2 := Lib.hid hb
    have HRR := Lib.hid hrr
    clear hrow hrr hb
    by_cases hil : i < 6
    · obtain ⟨n, hn⟩ : ∃ n, [x0, x1, x2, x3, x4, x5][i]? = some n := ⟨[x0, x1, x2, x3, x4, x5][i], List.getElem?_eq_getElem _⟩
      obtain ⟨p, hpi⟩ : ∃ p, psI[i]? = some p := ⟨psI[i]'(by simpa [psI] using hil), List.getElem?_eq_getElem _⟩
      have hpc := hpp.cell hpi
      obtain ⟨q, rfl, hq, hq2, hq3⟩ := psI_nat i p hpi
      have k0 := HRR.out.cell (at7 (d := xd) hn)
      have hilI : (i : Int) < 6 := by omega
      have hiI : (0 : Int) ≤ (i : Int) := by omega
      have hzt := zip_take hq hn
      have HZT := Lib.hid hzt
      have hle : (nz (ps6.zip ([x0, x1, x2, x3, x4, x5].take i))).length ≤ 6 := by
        refine Nat.le_trans (nz_len _) ?_
        rw [List.length_zip, List.length_take]
        have : ps6.length = 6 := rfl
        omega
      clear hpp hpi hq hzt hn
      by_cases h0 : n = 0
      · subst h0
        go_wp2
        refine ⟨⟨i + 1, by omega, by go_num, ?_, HB2.out⟩, by simp [intOf]; omega⟩
        rw [HZT.out, nz_append]
        have : nz [(q, (0 : Int))] = [] := rfl
        rw [this, List.append_nil]
        exact HROW.out
      · have h0b : (n != 0) = true := by simp [h0]
        have HN0 := Lib.hid h0
        have hsz := HB2.out.size
        have hrow2 := fun (W : World) (hW : Below wr.heap.size wr W) => HROW.out.up hW
        have HROW2 := Lib.hid hrow2
        obtain ⟨bA, capA, rfl, hcA, hmA, hfA⟩ := HROW.out.form
        have HFA := Lib.hid hfA
        clear hfA h0 hrow2
        obtain ⟨i0, hi0, hz0, hz1, hz2'⟩ := info_parts Tryd.infoT
        have hgne : ∀ k, (Value.slice bA (nz (ps6.zip ([x0, x1, x2, x3, x4, x5].take i))).length capA).ownBlock = some k → w2.heap.size ≤ k := fun k hk => by
          rcases HFA.out with ⟨rfl, -, -⟩ | ⟨g', rfl, hg, -, -⟩
          · cases hk
          · cases hk; exact hg
        have HGN := Lib.hid hgne
        have hlw : w.heap.size < wr.heap.size := by omega
        have hgw : g < wr.heap.size := by omega
        have kp : ∀ (o : Obj) (a : Addr), a.block < wr.heap.size → (wr.drew.alloc o).cell? a = wr.cell? a := fun o a ha => (((Below.refl _ wr).drew).alloc (Nat.le_refl _) o).cell ha
        have KP := Lib.hid kp
        have hdd : ∀ o : Obj, Below wr.heap.size wr (wr.drew.alloc o) := fun o => ((Below.refl _ wr).drew).alloc (Nat.le_refl _) o
        have HDD := Lib.hid hdd
        clear hgne kp hdd
        generalize hL : (nz (ps6.zip ([x0, x1, x2, x3, x4, x5].take i))).length = L at *
        have HL := Lib.hid hL
        clear hL
        go_wp2
        go_region_held3 (fun w' => w'.cell? ⟨w.heap.size, i, none⟩ = some (.int .i64 n) ∧ w'.cell? ⟨g, i, none⟩ = some (.int .i64 (q : Int)))
          (first
            | (refine ⟨?_, ?_⟩ <;> with_reducible assumption)
            | exact ⟨(KP.out _ _ hlw).trans k0, (KP.out _ _ hgw).trans hpc⟩
            | exact ⟨p0, p1⟩
            | go_keep)
          ((refine step_append_lies _ (by rfl) _ _ _ (by rfl) w2.heap.size 75 i0 _ 2 16 Tryd.underlying69 hi0 hz0 hz1 hz2' rfl (by omega) (.slice bA L capA) L (encT (nz (ps6.zip ([x0, x1, x2, x3, x4, x5].take i)))) (by rfl) (by have h := HROW2.out _ (HDD.out (.cells #[.int .i64 (q : Int), .int .i64 n] 75)); unfold RowT at h; rw [HL.out] at h; exact h) ⟨wr.heap.size, 0, none⟩ 1 1 (encT [(q, n)]) (by rfl) (by rfl) (World.news_of_block (cs := #[.int .i64 (q : Int), .int .i64 n]) (t := 75) (fr := (0, 0)) (heap_alloc_new wr.drew _)) (one_encT _) (by omega) (by unfold maxLen; omega) (by omega) (by simp; omega) (wr.heap.size + 1) (by simp) ?_; intro g7 cap7 w7 hown7 hgr7 hat7 hg7; have p0 := (hgr7.cell_far ⟨w.heap.size, i, none⟩ (by simp; omega) (by intro e; have h : w2.heap.size ≤ w.heap.size := HGN.out _ e.symm; omega)).trans ((KP.out _ _ hlw).trans k0); have p1 := (hgr7.cell_far ⟨g, i, none⟩ (by simp; omega) (by intro e; have h : w2.heap.size ≤ g := HGN.out _ e.symm; omega)).trans ((KP.out _ _ hgw).trans hpc)))
        go_wp2
        have hb7 : Below w2.heap.size w2 w7 := ((HB2.out.alloc hsz _).drew).grown hgr7 (by simp; omega) (fun k hk => HGN.out k hk)
        refine ⟨⟨i + 1, by omega, by go_num, ?_, hb7⟩, by simp [intOf]; omega⟩
        rw [HZT.out, nz_append]
        have : nz [(q, n)] = [(q, n)] := by unfold nz; rw [List.filter_cons, if_pos h0b]; rfl
        rw [this]
        unfold RowT
        rw [List.length_append, HL.out, encT_append]
        exact hown7
    · obtain rfl : i = 6 := by omega
      have k6 := HRR.out.cell (i := 6) (x := xd) rfl
      have hbf := HB.out.trans (HB2.out.mono hz2)
      have hrt : RowT wr w.heap.size u6 (nz (V6.zl ⟨x0, x1, x2, x3, x4, x5⟩)) := by
        have hr := HROW.out
        refine ⟨hr.1, ?_⟩
        rcases hr.2 with h | ⟨g', cap, cur, h1, h2, h3⟩
        · exact .inl h
        · exact .inr ⟨g', cap, cur, h1, Nat.le_trans hz2 h2, h3⟩
      have HRT := Lib.hid hrt
      have HBF := Lib.hid hbf
      clear hrt hbf hpp HROW
      go_wp2
      go_region_held3 (fun w' => w'.cell? ⟨w.heap.size, 6, none⟩ = some (.int .i64 xd)) (go_keep) (fail)
      go_wp2
      go_ret3
      rw [HCT.out]
      exact .inl ⟨trivial, u6, rfl, HRT.out.up (Below.refl _ _).drew, HBF.out.drew⟩
end Go.Proofs.YtkoghdgfllichaaDoor
namespace Go.Proofs.YtkoghdgfllichaaDoor
open Go.RowKit

def OaRel (w : World) (g1 g2 : Nat) (N D : Nat) (nv dv iv : Value) (wr : World) : Prop :=
  ∃ i : Nat, i ≤ 6 ∧ iv = .int .i64 (i : Int) ∧ nv = .int .i64 (((sts (ps6.take i) N).1 : Nat) : Int) ∧ dv = .int .i64 (((sts (ps6.take i) D).1 : Nat) : Int) ∧
    RowI wr w.heap.size 24 [0, 0, 0, 0, 0, 0, 0] ∧ RowI wr g1 24 (mixL (ofZ N D) zero6 i ++ [1]) ∧ RowI wr g2 2 psI ∧ Below w.heap.size w wr
def ObRel (w : World) (g1 g2 : Nat) (a p i : Nat) (s : Int) (up : Int) (L : List Int) (nv : Value) (wr : World) : Prop :=
  ∃ m t : Nat, nv = .int .i64 (m : Int) ∧ 1 ≤ m ∧ t + m ≤ a ∧ st p a = ((st p m).1, (st p m).2 + t) ∧
    RowI wr w.heap.size 24 [0, 0, 0, 0, 0, 0, 0] ∧ RowI wr g1 24 (L.set i (up + s * (t : Int)) ++ [1]) ∧ RowI wr g2 2 psI ∧ Below w.heap.size w wr
theorem zipWith_sub_eq {num den : Nat} (h1 : num ≠ 0) (h2 : den ≠ 0) : ofZ num den = ofZ (num / Nat.gcd num den) (den / Nat.gcd num den) ∧ ((sts ps6 num).1 = (sts ps6 den).1 ↔ (sts ps6 (num / Nat.gcd num den)).1 = 1 ∧ (sts ps6 (den / Nat.gcd num den)).1 = 1) := by
  obtain ⟨a, b⟩ := sts_low ps6 ps6_prime h1 h2
  exact ⟨b, a⟩
set_option maxRecDepth 100000 in
set_option maxHeartbeats 1000000 in
theorem rOf_bad (num den : Int) (w : World) (h : ¬ (1 ≤ num ∧ num ≤ 1000000000000 ∧ 1 ≤ den ∧ den ≤ 1000000000000)) :
    Calls Tryd.prog 53 #[.int .i64 num, .int .i64 den] w (RtPost w (ofW num den)) := by
  have hW : ofW num den = (Rt.zero, 2) := by unfold ofW; rw [if_neg h]
  rw [hW]
  have HB := Lib.hid (belA w (.cells #[.int .i64 0, .int .i64 0, .int .i64 0, .int .i64 0, .int .i64 0, .int .i64 0, .int .i64 0] 24))
  clear hW
  by_cases h1 : num < 1
  · clear h
    go_enter Tryd.func53, Tryd.ntmps53
    go_wp2
    exact bodyPost_ret (v := .tuple #[.agg #[.int .i64 0, .int .i64 0, .int .i64 0, .int .i64 0, .int .i64 0, .int .i64 0, .int .i64 0], .int .i64 2]) (by simp [results, Tryd.results53, go_sem]) rfl ⟨rfl, HB.out⟩
  by_cases h2 : 1000000000000 < num
  · clear h
    go_enter Tryd.func53, Tryd.ntmps53
    go_wp2
    exact bodyPost_ret (v := .tuple #[.agg #[.int .i64 0, .int .i64 0, .int .i64 0, .int .i64 0, .int .i64 0, .int .i64 0, .int .i64 0], .int .i64 2]) (by simp [results, Tryd.results53, go_sem]) rfl ⟨rfl, HB.out⟩
  by_cases h3 : den < 1
  · clear h
    go_enter Tryd.func53, Tryd.ntmps53
    go_wp2
    exact bodyPost_ret (v := .tuple #[.agg #[.int .i64 0, .int .i64 0, .int .i64 0, .int .i64 0, .int .i64 0, .int .i64 0, .int .i64 0], .int .i64 2]) (by simp [results, Tryd.results53, go_sem]) rfl ⟨rfl, HB.out⟩
  have h4 : 1000000000000 < den := by omega
  clear h
  go_enter Tryd.func53, Tryd.ntmps53
  go_wp2
  exact bodyPost_ret (v := .tuple #[.agg #[.int .i64 0, .int .i64 0, .int .i64 0, .int .i64 0, .int .i64 0, .int .i64 0, .int .i64 0], .int .i64 2]) (by simp [results, Tryd.results53, go_sem]) rfl ⟨rfl, HB.out⟩
set_option maxRecDepth 100000 in
set_option maxHeartbeats 4000000 in
theorem rOf_good (num den : Nat) (w : World) (h1 : 1 ≤ num) (h2 : num ≤ 1000000000000) (h3 : 1 ≤ den) (h4 : den ≤ 1000000000000) :
    Calls Tryd.prog 53 #[.int .i64 (num : Int), .int .i64 (den : Int)] w (RtPost w (ofW num den)) := by
  obtain ⟨lz, liff⟩ := zipWith_sub_eq (num := num) (den := den) (by omega) (by omega)
  obtain ⟨G, hG⟩ : ∃ G, G = Nat.gcd num den := ⟨_, rfl⟩
  have hgp : 1 ≤ G := by rw [hG]; exact Nat.gcd_pos_of_pos_left _ h1
  have hgn : G ≤ num := by rw [hG]; exact Nat.gcd_le_left _ h1
  have hgdv : G ∣ num := by rw [hG]; exact Nat.gcd_dvd_left _ _
  have hgdv2 : G ∣ den := by rw [hG]; exact Nat.gcd_dvd_right _ _
  have hgd : G ≤ den := Nat.le_of_dvd (by omega) hgdv2
  rw [← hG] at lz liff
  obtain ⟨N, hN⟩ : ∃ N, N = num / G := ⟨_, rfl⟩
  obtain ⟨D, hD⟩ : ∃ D, D = den / G := ⟨_, rfl⟩
  have hN1 : 1 ≤ N := by rw [hN]; exact Nat.div_pos hgn hgp
  have hD1 : 1 ≤ D := by rw [hD]; exact Nat.div_pos hgd hgp
  have hN2 : N ≤ num := by rw [hN]; exact Nat.div_le_self _ _
  have hD2 : D ≤ den := by rw [hD]; exact Nat.div_le_self _ _
  have hNI : (num : Int) / (G : Int) = (N : Int) := by rw [hN]; exact (Int.natCast_ediv num G).symm
  have hDI : (den : Int) / (G : Int) = (D : Int) := by rw [hD]; exact (Int.natCast_ediv den G).symm
  have hNt : (num : Int).tdiv (G : Int) = (N : Int) := by rw [hN]; exact (Int.ofNat_tdiv num G).symm
  have hDt : (den : Int).tdiv (G : Int) = (D : Int) := by rw [hD]; exact (Int.ofNat_tdiv den G).symm
  rw [← hN, ← hD] at lz liff
  have hW : ofW num den = if (sts ps6 N).1 = 1 ∧ (sts ps6 D).1 = 1 then (⟨V6.ofL (ofZ N D), 1⟩, 0) else (Rt.zero, 7) := by
    unfold ofW
    rw [if_pos (by omega), Int.toNat_natCast, Int.toNat_natCast, lz]
    by_cases h : (sts ps6 N).1 = 1 ∧ (sts ps6 D).1 = 1
    · rw [if_pos h, if_pos (liff.2 h)]
    · rw [if_neg h, if_neg (fun h' => h (liff.1 h'))]
  have hgc := fun W => rgcd_any num den W (by omega) (by omega)
  rw [← hG] at hgc
  generalize ofW num den = RW at *
  have HW := Lib.hid hW
  have HGC := Lib.hid hgc
  have eN : IntKind.i64.wrap (N : Int) = (N : Int) := IntWalk.i64_in _ (by omega)
  have eD : IntKind.i64.wrap (D : Int) = (D : Int) := IntWalk.i64_in _ (by omega)
  have hG0 : ¬ (G : Int) = 0 := by omega
  have hG0b : ((G : Int) == 0) = false := beq_false_of_ne hG0
  clear hW hgc lz liff hG hgdv hgdv2 hN hD
  have HR := Lib.hid (RowI.of_alloc w 24 [0, 0, 0, 0, 0, 0, 0])
  have HB := Lib.hid (belA w (.cells #[.int .i64 0, .int .i64 0, .int .i64 0, .int .i64 0, .int .i64 0, .int .i64 0, .int .i64 0] 24))
  go_enter Tryd.func53, Tryd.ntmps53
  go_wp2_with fail
  refine (HGC.out _).mono ?_
  rintro e w1 ⟨he, hdr⟩
  subst he
  have hr := HR.out.up hdr.below
  have hb := HB.out.trans (hdr.below.mono (by simp))
  clear HR HB hdr HGC
  have HR := Lib.hid hr
  have HB := Lib.hid hb
  have hz := hb.size
  have hlt := hr.lt
  clear hr hb
  go_wp2
  go_quiet (fail)
  have hdn : Below w1.heap.size w1 (w1.drewN nq) := Drawn.below ⟨nq, rfl⟩
  have hr := HR.out.up hdn
  have hb := HB.out.trans (hdn.mono hz)
  clear HR HB hz hlt hdn
  generalize w1.drewN nq = W1 at *
  have hz := hb.size
  have hlt := hr.lt
  have hr1 := hr.alloc (.cells #[.int .i64 0, .int .i64 0, .int .i64 0, .int .i64 0, .int .i64 0, .int .i64 0, .int .i64 1] 24)
  have hm0 : mixL (ofZ N D) zero6 0 ++ [1] = [0, 0, 0, 0, 0, 0, 1] := rfl
  have hr2 : RowI (W1.alloc (.cells #[.int .i64 0, .int .i64 0, .int .i64 0, .int .i64 0, .int .i64 0, .int .i64 0, .int .i64 1] 24)) W1.heap.size 24 (mixL (ofZ N D) zero6 0 ++ [1]) := by
    rw [hm0]
    exact RowI.of_alloc W1 24 [0, 0, 0, 0, 0, 0, 1]
  clear hm0
  have hb1 := hb.trans ((belA W1 (.cells #[.int .i64 0, .int .i64 0, .int .i64 0, .int .i64 0, .int .i64 0, .int .i64 0, .int .i64 1] 24)).mono hz)
  have HR1 := Lib.hid hr1
  have HR2 := Lib.hid hr2
  have HB := Lib.hid hb1
  clear hr hb hr1 hr2 hb1
  go_wp2_with fail
  refine (rPrimes_any _).mono ?_
  rintro e w2 ⟨he, hpr, hb2⟩
  subst he
  have hr1 := HR1.out.up hb2
  have hr2 := HR2.out.up hb2
  have hb := HB.out.trans (hb2.mono (by simp; omega))
  rw [World.size_alloc] at hpr ⊢
  clear HR1 HR2 HB hb2
  generalize hg1 : W1.heap.size = g1 at *
  clear hg1
  have HR1 := Lib.hid hr1
  have HR2 := Lib.hid hr2
  have HP := Lib.hid hpr
  have HB := Lib.hid hb
  clear hr1 hr2 hpr hb
  have hne1 : w.heap.size ≠ g1 := by omega
  have hne2 : g1 + 1 ≠ g1 := by omega
  go_wp2
  go_loopw [0, 1, 9] (fun nv dv iv wr => OaRel w g1 (g1 + 1) N D nv dv iv wr) (fun _ _ iv _ => 6 - (intOf iv).toNat)
  case atStart => exact ⟨0, Nat.zero_le _, rfl, rfl, rfl, HR1.out, HR2.out, HP.out, HB.out⟩
  case round =>
    clear HR1 HR2 HP HB
    obtain ⟨i, hi, rfl, rfl, rfl, hr1, hr2, hpr, hb⟩ := hrel
    obtain ⟨wo, rfl⟩ : ∃ wo : World, wo = wr := ⟨_, rfl⟩
    have HR1 := Lib.hid hr1
    have HR2 := Lib.hid hr2
    have HP := Lib.hid hpr
    have HB := Lib.hid hb
    clear hr1 hr2 hpr hb
    have hpt : ∀ p ∈ ps6.take i, primeN p := fun p hp => ps6_prime p (List.mem_of_mem_take hp)
    have an1 := sts_le _ hpt N (by omega)
    have an2 := sts_pos _ hpt N (by omega)
    have ad1 := sts_le _ hpt D (by omega)
    have ad2 := sts_pos _ hpt D (by omega)
    by_cases hil : i < 6
    · have hilI : (i : Int) < 6 := by omega
      have hiI : (0 : Int) ≤ (i : Int) := by omega
      obtain ⟨p, hpi⟩ : ∃ p, psI[i]? = some p := ⟨psI[i]'(by simpa [psI] using hil), List.getElem?_eq_getElem _⟩
      obtain ⟨q, rfl, hq, hq2, hq3⟩ := psI_nat i p hpi
      have htn := sts_snoc q (ps6.take i) N
      have htd := sts_snoc q (ps6.take i) D
      have htk : ps6.take (i + 1) = ps6.take i ++ [q] := by rw [List.take_add_one, hq]; rfl
      rw [← htk] at htn htd
      have hz := ofZ_at (num := N) (den := D) hq
      have hset := mixL_set (Z := ofZ N D) (O := zero6) (ofZ_len N D) hz
      have hl6 : (mixL (ofZ N D) zero6 i).length = 6 := by
        have := ofZ_len N D
        unfold mixL
        rw [List.length_append, List.length_take, List.length_drop, this]
        show min i 6 + (6 - i) = 6
        omega
      have h0i : (mixL (ofZ N D) zero6 i)[i]? = some 0 := by
        refine mixL_own (ofZ_len N D) ?_
        match i, hil with
        | 0, _ => rfl
        | 1, _ => rfl
        | 2, _ => rfl
        | 3, _ => rfl
        | 4, _ => rfl
        | 5, _ => rfl
      have hs0 : (mixL (ofZ N D) zero6 i).set i (0 + 1 * ((0 : Nat) : Int)) = mixL (ofZ N D) zero6 i := by
        apply List.ext_getElem?
        intro k
        rw [List.getElem?_set]
        by_cases hk : i = k
        · subst hk
          rw [if_pos rfl, if_pos (by omega), h0i]; rfl
        · rw [if_neg hk]
      have hza : (sts (ps6.take (i + 1)) N).1 = (st q (sts (ps6.take i) N).1).1 := congrArg Prod.fst htn
      have hzb : (sts (ps6.take (i + 1)) D).1 = (st q (sts (ps6.take i) D).1).1 := congrArg Prod.fst htd
      generalize (sts (ps6.take i) N).1 = a at *
      generalize (sts (ps6.take i) D).1 = b at *
      generalize mixL (ofZ N D) zero6 i = L at *
      have HPI := Lib.hid hpi
      have HZA := Lib.hid hza
      have HZB := Lib.hid hzb
      have HSET := Lib.hid hset
      have HL6 := Lib.hid hl6
      have HS0 := Lib.hid hs0
      have hq0 : ¬ (q : Int) = 0 := by omega
      have hq0b : ((q : Int) == 0) = false := beq_false_of_ne hq0
      clear hpi hq htn htd htk hz hset hl6 h0i hs0 hza hzb hpt
      go_wp2
      go_loopw [0] (fun nv wr => ObRel w g1 (g1 + 1) a q i 1 0 L nv wr) (fun nv _ => (intOf nv).toNat)
      case atStart => exact ⟨a, 0, rfl, by omega, by omega, rfl, HR1.out, by rw [HS0.out]; exact HR2.out, HP.out, HB.out⟩
      case round =>
        clear HR1 HR2 HP HB
        obtain ⟨m, t, rfl, hm1, hm2, hst, hr1, hr2, hpr, hb⟩ := hrel
        have HST := Lib.hid hst
        have HR1 := Lib.hid hr1
        have HR2 := Lib.hid hr2
        have HP := Lib.hid hpr
        have HB := Lib.hid hb
        have kp := hpr.cell HPI.out
        have hl7 : (L.set i (0 + 1 * (t : Int))).length = 6 := by rw [List.length_set]; exact HL6.out
        have kt := hr2.cell (i := i) (x := (t : Int)) (by rw [List.getElem?_append_left (by omega), List.getElem?_set_self (by rw [HL6.out]; exact hil)]; congr 1; omega)
        have ft := hr2.frozen i
        clear hst hr1 hr2 hpr hb hl7
        by_cases h : m % q = 0
        · have hr : (m : Int) % (q : Int) = 0 := by rw [← Int.natCast_emod, h]; rfl
          obtain ⟨u, hu⟩ : ∃ u, u = m / q := ⟨_, rfl⟩
          have huI : (m : Int) / (q : Int) = (u : Int) := by rw [hu]; exact (Int.natCast_ediv m q).symm
          have hlt : u < m := by rw [hu]; exact Nat.div_lt_self (by omega) (by omega)
          have hu0 : u ≠ 0 := by
            intro h0
            have := Nat.div_add_mod m q
            rw [← hu, h0, h] at this; simp at this; omega
          have hs2 : st q m = ((st q u).1, (st q u).2 + 1) := by rw [hu]; exact st_hit hq2 (by omega) h
          have HS2 := Lib.hid hs2
          clear hs2 hu h
          go_wp2
          refine ⟨⟨u, t + 1, rfl, by omega, by omega, ?_, HR1.out.other _ hne1, ?_, HP.out.other _ hne2, HB.out.setCell (by show w.heap.size ≤ g1; omega) _⟩, by simp [intOf]; omega⟩
          · rw [HST.out, HS2.out]
            show ((st q u).1, (st q u).2 + 1 + t) = ((st q u).1, (st q u).2 + (t + 1))
            rw [Nat.add_assoc, Nat.add_comm 1 t]
          · have h := HR2.out.set i ((t : Int) + 1)
            rw [List.set_append, if_pos (by rw [List.length_set, HL6.out]; exact hil), List.set_set] at h
            rw [show (0 : Int) + 1 * ((t + 1 : Nat) : Int) = (t : Int) + 1 by omega]
            exact h
        · obtain ⟨r, hr⟩ : ∃ r : Nat, r = m % q := ⟨_, rfl⟩
          have hrI : (m : Int) % (q : Int) = (r : Int) := by rw [hr]; exact (Int.natCast_emod m q).symm
          have hr0 : ¬ (r : Int) = 0 := by rw [hr]; omega
          have hs2 : st q m = (m, 0) := st_miss h
          have hsa : st q a = (m, t) := by rw [HST.out, hs2]; simp
          have HSA := Lib.hid hsa
          clear hs2 hr h hsa HST kt ft
          obtain ⟨w3, rfl⟩ : ∃ w3 : World, w3 = wr := ⟨_, rfl⟩
          go_wp2
          go_loopw [1] (fun nv wr => ObRel w g1 (g1 + 1) b q i (-1) (t : Int) L nv wr) (fun nv _ => (intOf nv).toNat)
          case atStart => exact ⟨b, 0, rfl, by omega, by omega, rfl, HR1.out, by have h := HR2.out; rw [show (t : Int) + -1 * ((0 : Nat) : Int) = 0 + 1 * (t : Int) by omega]; exact h, HP.out, HB.out⟩
          case round =>
            clear HR1 HR2 HP HB kp
            obtain ⟨m', t', rfl, hm1', hm2', hst', hr1, hr2, hpr, hb⟩ := hrel
            have HST := Lib.hid hst'
            have HR1 := Lib.hid hr1
            have HR2 := Lib.hid hr2
            have HP := Lib.hid hpr
            have HB := Lib.hid hb
            have kp := hpr.cell HPI.out
            have hl7 : (L.set i ((t : Int) + -1 * (t' : Int))).length = 6 := by rw [List.length_set]; exact HL6.out
            have kt := hr2.cell (i := i) (x := (t : Int) - (t' : Int)) (by rw [List.getElem?_append_left (by omega), List.getElem?_set_self (by rw [HL6.out]; exact hil)]; congr 1; omega)
            have ft := hr2.frozen i
            obtain ⟨V, hV⟩ : ∃ V : Int, (t : Int) - (t' : Int) = V := ⟨_, rfl⟩
            rw [hV] at kt
            have HV := Lib.hid hV
            have hVb : -1000000000000 ≤ V ∧ V ≤ 1000000000000 := by omega
            clear hst' hr1 hr2 hpr hb hl7 hV
            by_cases h : m' % q = 0
            · have hr : (m' : Int) % (q : Int) = 0 := by rw [← Int.natCast_emod, h]; rfl
              obtain ⟨u, hu⟩ : ∃ u, u = m' / q := ⟨_, rfl⟩
              have huI : (m' : Int) / (q : Int) = (u : Int) := by rw [hu]; exact (Int.natCast_ediv m' q).symm
              have hlt : u < m' := by rw [hu]; exact Nat.div_lt_self (by omega) (by omega)
              have hu0 : u ≠ 0 := by
                intro h0
                have := Nat.div_add_mod m' q
                rw [← hu, h0, h] at this; simp at this; omega
              have hs2 : st q m' = ((st q u).1, (st q u).2 + 1) := by rw [hu]; exact st_hit hq2 (by omega) h
              have HS2 := Lib.hid hs2
              clear hs2 hu h
              go_wp2
              refine ⟨⟨u, t' + 1, rfl, by omega, by omega, ?_, HR1.out.other _ hne1, ?_, HP.out.other _ hne2, HB.out.setCell (by show w.heap.size ≤ g1; omega) _⟩, by simp [intOf]; omega⟩
              · rw [HST.out, HS2.out]
                show ((st q u).1, (st q u).2 + 1 + t') = ((st q u).1, (st q u).2 + (t' + 1))
                rw [Nat.add_assoc, Nat.add_comm 1 t']
              · have h := HR2.out.set i (V - 1)
                rw [List.set_append, if_pos (by rw [List.length_set, HL6.out]; exact hil), List.set_set] at h
                rw [show (t : Int) + -1 * ((t' + 1 : Nat) : Int) = V - 1 by rw [← HV.out]; omega]
                exact h
            · obtain ⟨r', hr'⟩ : ∃ r : Nat, r = m' % q := ⟨_, rfl⟩
              have hrI' : (m' : Int) % (q : Int) = (r' : Int) := by rw [hr']; exact (Int.natCast_emod m' q).symm
              have hr0' : ¬ (r' : Int) = 0 := by rw [hr']; omega
              have hs2 : st q m' = (m', 0) := st_miss h
              have hsb : st q b = (m', t') := by rw [HST.out, hs2]; simp
              have HSB := Lib.hid hsb
              clear hs2 hr' h hsb HST kt ft
              go_wp2
              refine ⟨⟨i + 1, by omega, by go_num, by rw [HZA.out, HSA.out], by rw [HZB.out, HSB.out], HR1.out, ?_, HP.out, HB.out⟩, by simp [intOf]; omega⟩
              have h := HSET.out
              rw [HSA.out, HSB.out] at h
              have h2 := HR2.out
              rw [show (t : Int) + -1 * (t' : Int) = (t : Int) - (t' : Int) by omega, h] at h2
              exact h2
    · obtain rfl : i = 6 := by omega
      have htk : ps6.take 6 = ps6 := rfl
      rw [htk] at an1 an2 ad1 ad2 ⊢
      have hm : mixL (ofZ N D) zero6 6 = ofZ N D := by
        unfold mixL
        rw [List.take_of_length_le (by rw [ofZ_len]; omega), List.drop_of_length_le (by show 6 ≤ 6; omega), List.append_nil]
      have hr2 := HR2.out
      rw [hm] at hr2
      have hWE := HW.out
      have hl := ofZ_len N D
      clear hm HR2 HW htk HP hpt
      generalize ofZ N D = Z at *
      match Z, hl with
      | [z0, z1, z2, z3, z4, z5], _ =>
      generalize (sts ps6 N).1 = a at *
      generalize (sts ps6 D).1 = b at *
      have HWE := Lib.hid hWE
      clear hWE
      obtain ⟨c0, c1, c2, c3, c4, c5, c6⟩ := HR1.out.r7
      simp only [Nat.zero_add] at c0 c1 c2 c3 c4 c5 c6
      have f0 := HR1.out.frozen 0
      have f1 := HR1.out.frozen 1
      have f2 := HR1.out.frozen 2
      have f3 := HR1.out.frozen 3
      have f4 := HR1.out.frozen 4
      have f5 := HR1.out.frozen 5
      have f6 := HR1.out.frozen 6
      obtain ⟨d0, d1, d2, d3, d4, d5, d6⟩ := RowI.r7 (x0 := z0) (x1 := z1) (x2 := z2) (x3 := z3) (x4 := z4) (x5 := z5) (d := 1) hr2
      simp only [Nat.zero_add] at d0 d1 d2 d3 d4 d5 d6
      clear hr2
      by_cases hab : a = 1 ∧ b = 1
      · obtain ⟨rfl, rfl⟩ := hab
        have hWE := HWE.out
        rw [if_pos ⟨rfl, rfl⟩] at hWE
        have HWF := Lib.hid hWE
        clear hWE HWE
        go_wp2
        change bodyPost _ _ _ _ _ (putR wo w.heap.size z0 z1 z2 z3 z4 z5 1)
        clear c0 c1 c2 c3 c4 c5 c6
        obtain ⟨c0, c1, c2, c3, c4, c5, c6⟩ := (putR_row HR1.out z0 z1 z2 z3 z4 z5 1).r7
        have hB := putR_below HB.out (Nat.le_refl w.heap.size) z0 z1 z2 z3 z4 z5 1
        generalize putR wo w.heap.size z0 z1 z2 z3 z4 z5 1 = W' at *
        simp only [Nat.zero_add] at c0 c1 c2 c3 c4 c5 c6
        refine bodyPost_ret (v := .tuple #[.agg #[.int .i64 z0, .int .i64 z1, .int .i64 z2, .int .i64 z3, .int .i64 z4, .int .i64 z5, .int .i64 1], .int .i64 0]) (by simp [results, Tryd.results53, c0, c1, c2, c3, c4, c5, c6, go_sem]) rfl ⟨?_, hB⟩
        rw [HWF.out]
        rfl
      · have hWE := HWE.out
        rw [if_neg hab] at hWE
        have HWF := Lib.hid hWE
        clear hWE HWE d0 d1 d2 d3 d4 d5 d6
        by_cases ha : a = 1
        case' pos =>
          have hb1 : ¬ (b : Int) = 1 := by omega
          subst ha
        case' neg => have ha1 : ¬ (a : Int) = 1 := by omega
        all_goals
          clear hab
          go_wp2
          change bodyPost _ _ _ _ _ (putR wo w.heap.size 0 0 0 0 0 0 0)
          clear c0 c1 c2 c3 c4 c5 c6
          obtain ⟨c0, c1, c2, c3, c4, c5, c6⟩ := (putR_row HR1.out 0 0 0 0 0 0 0).r7
          have hB := putR_below HB.out (Nat.le_refl w.heap.size) 0 0 0 0 0 0 0
          generalize putR wo w.heap.size 0 0 0 0 0 0 0 = W' at *
          simp only [Nat.zero_add] at c0 c1 c2 c3 c4 c5 c6
          refine bodyPost_ret (v := .tuple #[.agg #[.int .i64 0, .int .i64 0, .int .i64 0, .int .i64 0, .int .i64 0, .int .i64 0, .int .i64 0], .int .i64 7]) (by simp [results, Tryd.results53, c0, c1, c2, c3, c4, c5, c6, go_sem]) rfl ⟨?_, hB⟩
          rw [HWF.out]
          rfl
theorem rOf_any (num den : Int) (w : World) : Calls Tryd.prog 53 #[.int .i64 num, .int .i64 den] w (RtPost w (ofW num den)) := by
  by_cases h : 1 ≤ num ∧ num ≤ 1000000000000 ∧ 1 ≤ den ∧ den ≤ 1000000000000
  · obtain ⟨h1, h2, h3, h4⟩ := h
    obtain ⟨n, rfl⟩ := Int.eq_ofNat_of_zero_le (show 0 ≤ num by omega)
    obtain ⟨d, rfl⟩ := Int.eq_ofNat_of_zero_le (show 0 ≤ den by omega)
    exact rOf_good n d w (by omega) (by omega) (by omega) (by omega)
  · exact rOf_bad num den w h
end Go.Proofs.YtkoghdgfllichaaDoor
