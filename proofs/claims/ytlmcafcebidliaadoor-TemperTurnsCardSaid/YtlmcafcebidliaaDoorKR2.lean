import Derived.Test.YtlmcafcebidliaaDoorKR1
namespace Go.Proofs.YtlmcafcebidliaaDoor
open Go.RowKit

def MaRel (W0 : World) (l : List Int) (d : Nat) (gv iv : Value) (wr : World) : Prop := ∃ (i g : Nat), i ≤ 6 ∧ iv = .int .i64 (i : Int) ∧ gv = .int .i64 (g : Int) ∧ 1 ≤ g ∧ g ≤ 1000000000 ∧ gl (l.drop i) g = gl l d ∧ Drawn W0 wr
def MbRel (w W1 : World) (B2 : Nat) (X Q : List Int) (iv : Value) (wr : World) : Prop := ∃ i : Nat, i ≤ 6 ∧ iv = .int .i64 (i : Int) ∧ (∀ n ∈ Q.take i, fitB n = true) ∧
  RowI wr w.heap.size 70 X ∧ RowI wr (w.heap.size + 1) 40 [0, 0, 0, 0, 0, 0, 0] ∧ RowI wr B2 40 (mixL Q zero6 i ++ [0]) ∧ Below w.heap.size w wr
set_option maxRecDepth 100000 in
set_option maxHeartbeats 2000000 in
theorem made_any (x0 x1 x2 x3 x4 x5 : Int) (d : Nat) (w : World) (hd1 : 1 ≤ d) (hd2 : d ≤ 1000000000) (hx : ∀ n ∈ [x0, x1, x2, x3, x4, x5], -1000000000 ≤ n ∧ n ≤ 1000000000) :
    Calls Tryd.prog 40 #[.agg #[.int .i64 x0, .int .i64 x1, .int .i64 x2, .int .i64 x3, .int .i64 x4, .int .i64 x5], .int .i64 (d : Int)] w (RtPost w (lowW ⟨x0, x1, x2, x3, x4, x5⟩ (d : Int))) := by
  obtain ⟨G, hG⟩ : ∃ G, G = gl [x0, x1, x2, x3, x4, x5] d := ⟨_, rfl⟩
  have hgs : V6.gs ⟨x0, x1, x2, x3, x4, x5⟩ (d : Int) = (G : Int) := by
    unfold V6.gs
    rw [if_neg (by omega)]
    unfold V6.g
    rw [Int.natAbs_natCast, hG]
    rfl
  have hgp : 0 < G := by rw [hG]; exact gl_pos (by omega)
  have hgd : G ∣ d := by rw [hG]; exact (gl_dvd _ _).1
  obtain ⟨e, he⟩ : ∃ e : Nat, e = d / G := ⟨_, rfl⟩
  have he1 : 1 ≤ e := by rw [he]; exact Nat.div_pos (Nat.le_of_dvd (by omega) hgd) hgp
  have hed : e ≤ d := by rw [he]; exact Nat.div_le_self _ _
  have heI : (d : Int) / (G : Int) = (e : Int) := by rw [he]; exact (Int.natCast_ediv d G).symm
  have het : (d : Int).tdiv (G : Int) = (e : Int) := by rw [he]; exact (Int.ofNat_tdiv d G).symm
  have hGd : G ≤ d := Nat.le_of_dvd (by omega) hgd
  have hW : lowW ⟨x0, x1, x2, x3, x4, x5⟩ (d : Int) = if Rt.fits ⟨⟨x0.tdiv (G : Int), x1.tdiv (G : Int), x2.tdiv (G : Int), x3.tdiv (G : Int), x4.tdiv (G : Int), x5.tdiv (G : Int)⟩, (e : Int)⟩ = true then (⟨⟨x0.tdiv (G : Int), x1.tdiv (G : Int), x2.tdiv (G : Int), x3.tdiv (G : Int), x4.tdiv (G : Int), x5.tdiv (G : Int)⟩, (e : Int)⟩, 0) else (Rt.zero, 7) := by
    unfold lowW lowR
    rw [hgs, het]
    rfl
  generalize lowW ⟨x0, x1, x2, x3, x4, x5⟩ (d : Int) = RW at *
  have HW := Lib.hid hW
  have HG := Lib.hid hG
  have HX := Lib.hid hx
  clear hW hgs hgd he het hx hG
  go_enter Tryd.func40, Tryd.ntmps40
  go_wp2
  have hr1 : RowI ((w.alloc (.cells #[.int .i64 x0, .int .i64 x1, .int .i64 x2, .int .i64 x3, .int .i64 x4, .int .i64 x5] 70)).alloc (.cells #[.int .i64 0, .int .i64 0, .int .i64 0, .int .i64 0, .int .i64 0, .int .i64 0, .int .i64 0] 40)) w.heap.size 70 [x0, x1, x2, x3, x4, x5] := (RowI.of_alloc w 70 [x0, x1, x2, x3, x4, x5]).alloc _
  have hr2 : RowI ((w.alloc (.cells #[.int .i64 x0, .int .i64 x1, .int .i64 x2, .int .i64 x3, .int .i64 x4, .int .i64 x5] 70)).alloc (.cells #[.int .i64 0, .int .i64 0, .int .i64 0, .int .i64 0, .int .i64 0, .int .i64 0, .int .i64 0] 40)) (w.heap.size + 1) 40 [0, 0, 0, 0, 0, 0, 0] := by
    have h := RowI.of_alloc (w.alloc (.cells #[.int .i64 x0, .int .i64 x1, .int .i64 x2, .int .i64 x3, .int .i64 x4, .int .i64 x5] 70)) 40 [0, 0, 0, 0, 0, 0, 0]
    rw [World.size_alloc] at h
    exact h
  have hb0 : Below w.heap.size w ((w.alloc (.cells #[.int .i64 x0, .int .i64 x1, .int .i64 x2, .int .i64 x3, .int .i64 x4, .int .i64 x5] 70)).alloc (.cells #[.int .i64 0, .int .i64 0, .int .i64 0, .int .i64 0, .int .i64 0, .int .i64 0, .int .i64 0] 40)) := (belA w _).alloc (by simp) _
  generalize (w.alloc (.cells #[.int .i64 x0, .int .i64 x1, .int .i64 x2, .int .i64 x3, .int .i64 x4, .int .i64 x5] 70)).alloc (.cells #[.int .i64 0, .int .i64 0, .int .i64 0, .int .i64 0, .int .i64 0, .int .i64 0, .int .i64 0] 40) = W0 at *
  have HR1 := Lib.hid hr1
  have HR2 := Lib.hid hr2
  have HB := Lib.hid hb0
  clear hr1 hr2 hb0
  go_loopw [6, 7] (fun gv iv wr => MaRel W0 [x0, x1, x2, x3, x4, x5] d gv iv wr) (fun _ iv _ => 6 - (intOf iv).toNat)
  case atStart => exact ⟨0, d, Nat.zero_le _, rfl, rfl, hd1, hd2, rfl, Drawn.refl _⟩
  case round =>
    obtain ⟨i, g, hi, rfl, rfl, hg1, hg2, hgl, hdr⟩ := hrel
    have HGL := Lib.hid hgl
    have HDR := Lib.hid hdr
    have hrw := HR1.out.up hdr.below
    have HRW := Lib.hid hrw
    clear hgl hdr hrw
    by_cases hil : i < 6
    · obtain ⟨n, hn⟩ : ∃ n, [x0, x1, x2, x3, x4, x5][i]? = some n := ⟨[x0, x1, x2, x3, x4, x5][i], List.getElem?_eq_getElem _⟩
      have hilI : (i : Int) < 6 := by omega
      have hiI : (0 : Int) ≤ (i : Int) := by omega
      have k0 := HRW.out.cell hn
      have hnb := HX.out n (List.mem_of_getElem? hn)
      have HDA := Lib.hid (drop_at hn)
      clear hn
      obtain ⟨a, ha⟩ : ∃ a : Nat, (a : Int) = max n (-n) := ⟨n.natAbs, by omega⟩
      have ha2 : max n (-n) = (a : Int) := ha.symm
      have hab : a = n.natAbs := by omega
      have hal : a ≤ 1000000000 := by omega
      have hgc := fun W => rgcd_any g a W (by omega) (by omega)
      have hgb : Nat.gcd g a ≤ 1000000000 := Nat.le_trans (Nat.gcd_le_left _ hg1) hg2
      have hgq : 1 ≤ Nat.gcd g a := Nat.gcd_pos_of_pos_left _ hg1
      obtain ⟨q, hq⟩ : ∃ q, q = Nat.gcd g a := ⟨_, rfl⟩
      rw [← hq] at hgc hgb hgq
      have HQ := Lib.hid hq
      have HGC := Lib.hid hgc
      have HAB := Lib.hid hab
      clear hgc hq hab ha
      go_wp2
      go_quiet ((go_at_call 58; exact Calls.quiet_of (HGC.out _)))
      go_wp2
      refine ⟨⟨i + 1, q, by omega, by go_num, rfl, hgq, hgb, ?_, HDR.out.trans ⟨_, rfl⟩⟩, by simp [intOf]; omega⟩
      rw [← HGL.out, HDA.out, HQ.out, HAB.out]
      rfl
    · obtain rfl : i = 6 := by omega
      have hgG : g = G := by rw [HG.out]; exact HGL.out
      subst hgG
      have hr1 := (HR1.out.up HDR.out.below).alloc (.cells #[.int .i64 0, .int .i64 0, .int .i64 0, .int .i64 0, .int .i64 0, .int .i64 0, .int .i64 0] 40)
      have hr2 := (HR2.out.up HDR.out.below).alloc (.cells #[.int .i64 0, .int .i64 0, .int .i64 0, .int .i64 0, .int .i64 0, .int .i64 0, .int .i64 0] 40)
      have hr3 := RowI.of_alloc wr 40 (mixL [x0.tdiv (g : Int), x1.tdiv (g : Int), x2.tdiv (g : Int), x3.tdiv (g : Int), x4.tdiv (g : Int), x5.tdiv (g : Int)] zero6 0 ++ [0])
      have hbw : Below w.heap.size w wr := HB.out.trans (HDR.out.below.mono HB.out.size)
      have hb := hbw.trans ((belA wr (.cells #[.int .i64 0, .int .i64 0, .int .i64 0, .int .i64 0, .int .i64 0, .int .i64 0, .int .i64 0] 40)).mono hbw.size)
      have hlt : w.heap.size + 1 < wr.heap.size := (HR2.out.up HDR.out.below).lt
      have hg0 : ¬ (g : Int) = 0 := by omega
      have hg0b : ((g : Int) == 0) = false := beq_false_of_ne hg0
      have HR2w := Lib.hid (HR2.out.up HDR.out.below)
      have HBw := Lib.hid hbw
      clear HR1 HR2 HB HGL HDR HRW HG hbw
      have HR1 := Lib.hid hr1
      have HR2 := Lib.hid hr2
      have HR3 := Lib.hid (show RowI (wr.alloc (.cells #[.int .i64 0, .int .i64 0, .int .i64 0, .int .i64 0, .int .i64 0, .int .i64 0, .int .i64 0] 40)) wr.heap.size 40 (mixL [x0.tdiv (g : Int), x1.tdiv (g : Int), x2.tdiv (g : Int), x3.tdiv (g : Int), x4.tdiv (g : Int), x5.tdiv (g : Int)] zero6 0 ++ [0]) from hr3)
      have HB := Lib.hid hb
      have heI2 : IntKind.i64.wrap (e : Int) = (e : Int) := IntWalk.i64_in _ (by omega)
      clear hr1 hr2 hr3 hb
      by_cases he3 : 1000 < (e : Int)
      · have hWE := HW.out
        rw [if_neg (by rw [fits_list]; unfold wiB; rw [decide_eq_false (show ¬ (e : Int) ≤ 1000 by omega), Bool.and_false, Bool.and_false]; exact Bool.false_ne_true)] at hWE
        have HWE := Lib.hid hWE
        clear hWE HW
        obtain ⟨c0, c1, c2, c3, c4, c5, c6⟩ := HR2w.out.r7
        simp only [Nat.zero_add] at c0 c1 c2 c3 c4 c5 c6
        have f0 := HR2w.out.frozen 0
        have f1 := HR2w.out.frozen 1
        have f2 := HR2w.out.frozen 2
        have f3 := HR2w.out.frozen 3
        have f4 := HR2w.out.frozen 4
        have f5 := HR2w.out.frozen 5
        have f6 := HR2w.out.frozen 6
        go_wp2
        change bodyPost _ _ _ _ _ ((putR wr (w.heap.size + 1) 0 0 0 0 0 0 0).alloc (.cells #[.int .i64 0, .int .i64 0, .int .i64 0, .int .i64 0, .int .i64 0, .int .i64 0, .int .i64 0] 40))
        clear c0 c1 c2 c3 c4 c5 c6
        obtain ⟨c0, c1, c2, c3, c4, c5, c6⟩ := ((putR_row HR2w.out 0 0 0 0 0 0 0).alloc (.cells #[.int .i64 0, .int .i64 0, .int .i64 0, .int .i64 0, .int .i64 0, .int .i64 0, .int .i64 0] 40)).r7
        have hB0 := putR_below HBw.out (show w.heap.size ≤ w.heap.size + 1 by omega) 0 0 0 0 0 0 0
        have hB := hB0.trans ((belA (putR wr (w.heap.size + 1) 0 0 0 0 0 0 0) (.cells #[.int .i64 0, .int .i64 0, .int .i64 0, .int .i64 0, .int .i64 0, .int .i64 0, .int .i64 0] 40)).mono hB0.size)
        generalize (putR wr (w.heap.size + 1) 0 0 0 0 0 0 0).alloc (.cells #[.int .i64 0, .int .i64 0, .int .i64 0, .int .i64 0, .int .i64 0, .int .i64 0, .int .i64 0] 40) = W' at *
        simp only [Nat.zero_add] at c0 c1 c2 c3 c4 c5 c6
        refine bodyPost_ret (v := .tuple #[.agg #[.int .i64 0, .int .i64 0, .int .i64 0, .int .i64 0, .int .i64 0, .int .i64 0, .int .i64 0], .int .i64 7]) (by simp [results, Tryd.results40, c0, c1, c2, c3, c4, c5, c6, go_sem]) rfl ⟨?_, hB⟩
        rw [HWE.out]
        rfl
      go_wp2
      have hr1 : RowI (wr.alloc (.cells #[.int .i64 0, .int .i64 0, .int .i64 0, .int .i64 0, .int .i64 0, .int .i64 0, .int .i64 0] 40)) w.heap.size 70 [x0, x1, x2, x3, x4, x5] := HR1.out
      have hr2 : RowI (wr.alloc (.cells #[.int .i64 0, .int .i64 0, .int .i64 0, .int .i64 0, .int .i64 0, .int .i64 0, .int .i64 0] 40)) (w.heap.size + 1) 40 [0, 0, 0, 0, 0, 0, 0] := HR2.out
      have hr3 := HR3.out
      have hb := HB.out
      clear HR1 HR2 HR3 HB
      generalize hB2 : wr.heap.size = B2 at *
      clear hB2
      generalize wr.alloc (.cells #[.int .i64 0, .int .i64 0, .int .i64 0, .int .i64 0, .int .i64 0, .int .i64 0, .int .i64 0] 40) = W2 at *
      have HR1 := Lib.hid hr1
      have HR2 := Lib.hid hr2
      have HR3 := Lib.hid hr3
      have HB := Lib.hid hb
      clear hr1 hr2 hr3 hb
      go_loopw [9] (fun iv wr => MbRel w W2 B2 [x0, x1, x2, x3, x4, x5] [x0.tdiv (g : Int), x1.tdiv (g : Int), x2.tdiv (g : Int), x3.tdiv (g : Int), x4.tdiv (g : Int), x5.tdiv (g : Int)] iv wr) (fun iv _ => 6 - (intOf iv).toNat)
      case atStart => exact ⟨0, Nat.zero_le _, rfl, fun n h => (by cases h), HR1.out, HR2.out, HR3.out, HB.out⟩
      case round =>
        clear HR1 HR2 HR3 HB
        obtain ⟨i, hi, rfl, hok, hr1, hr2, hr3, hb⟩ := hrel
        have HOK := Lib.hid hok
        have HR1 := Lib.hid hr1
        have HR2 := Lib.hid hr2
        have HR3 := Lib.hid hr3
        have HB := Lib.hid hb
        clear hok hr1 hr2 hr3 hb
        have hB2a : B2 ≠ w.heap.size := by omega
        have hB2b : B2 ≠ w.heap.size + 1 := by omega
        by_cases hil : i < 6
        · obtain ⟨n, hn⟩ : ∃ n, [x0, x1, x2, x3, x4, x5][i]? = some n := ⟨[x0, x1, x2, x3, x4, x5][i], List.getElem?_eq_getElem _⟩
          have hilI : (i : Int) < 6 := by omega
          have hiI : (0 : Int) ≤ (i : Int) := by omega
          have k0 := HR1.out.cell hn
          have hnb := HX.out n (List.mem_of_getElem? hn)
          obtain ⟨y, hy⟩ : ∃ y, n.tdiv (g : Int) = y := ⟨_, rfl⟩
          have hyb : -1000000000 ≤ y ∧ y ≤ 1000000000 := by rw [← hy]; exact tdiv_bound hnb
          have hy2 : IntKind.i64.wrap y = y := IntWalk.i64_in _ (by omega)
          have hqi : [x0.tdiv (g : Int), x1.tdiv (g : Int), x2.tdiv (g : Int), x3.tdiv (g : Int), x4.tdiv (g : Int), x5.tdiv (g : Int)][i]? = some y := by
            have h : [x0.tdiv (g : Int), x1.tdiv (g : Int), x2.tdiv (g : Int), x3.tdiv (g : Int), x4.tdiv (g : Int), x5.tdiv (g : Int)] = [x0, x1, x2, x3, x4, x5].map (·.tdiv (g : Int)) := rfl
            rw [h, map_at hn, hy]
          have HQI := Lib.hid hqi
          clear hn hqi
          by_cases hf : fitB y = true
          · obtain ⟨o, ho⟩ := mixL_at (Z := [x0.tdiv (g : Int), x1.tdiv (g : Int), x2.tdiv (g : Int), x3.tdiv (g : Int), x4.tdiv (g : Int), x5.tdiv (g : Int)]) (O := zero6) (i := i) rfl hil
            have hl6 : (mixL [x0.tdiv (g : Int), x1.tdiv (g : Int), x2.tdiv (g : Int), x3.tdiv (g : Int), x4.tdiv (g : Int), x5.tdiv (g : Int)] zero6 i).length = 6 := by
              unfold mixL
              rw [List.length_append, List.length_take, List.length_drop]
              show min i 6 + (6 - i) = 6
              omega
            have kz := HR3.out.cell (i := i) (x := o) (by rw [List.getElem?_append_left (by omega)]; exact ho)
            have fz := HR3.out.frozen i
            have hset := mixL_set (Z := [x0.tdiv (g : Int), x1.tdiv (g : Int), x2.tdiv (g : Int), x3.tdiv (g : Int), x4.tdiv (g : Int), x5.tdiv (g : Int)]) (O := zero6) rfl HQI.out
            obtain ⟨f1, f2⟩ := fitB_iff.1 hf
            have HF := Lib.hid hf
            have HSET := Lib.hid hset
            have HL6 := Lib.hid hl6
            clear hf ho hset hl6
            go_wp2
            refine ⟨⟨i + 1, by omega, by go_num, ?_, HR1.out.other _ (Ne.symm hB2a), HR2.out.other _ (Ne.symm hB2b), ?_, HB.out.setCell (by show w.heap.size ≤ B2; omega) _⟩, by simp [intOf]; omega⟩
            · intro z hz
              rw [List.take_add_one, HQI.out, List.mem_append] at hz
              rcases hz with h | h
              · exact HOK.out z h
              · simp at h; subst h; exact HF.out
            · have h := HR3.out.set i y
              rw [List.set_append, if_pos (by rw [HL6.out]; exact hil), HSET.out] at h
              exact h
          · have hWE := HW.out
            rw [if_neg (by
              rw [fits_list]
              intro h
              rw [Bool.and_eq_true] at h
              exact hf (List.all_eq_true.1 h.1 y (List.mem_of_getElem? HQI.out)))] at hWE
            have HWE := Lib.hid hWE
            clear hWE HW
            by_cases h1 : y < -100000
            · clear hf
              obtain ⟨c0, c1, c2, c3, c4, c5, c6⟩ := HR2.out.r7
              simp only [Nat.zero_add] at c0 c1 c2 c3 c4 c5 c6
              have f0 := HR2.out.frozen 0
              have f1 := HR2.out.frozen 1
              have f2 := HR2.out.frozen 2
              have f3 := HR2.out.frozen 3
              have f4 := HR2.out.frozen 4
              have f5 := HR2.out.frozen 5
              have f6 := HR2.out.frozen 6
              go_wp2
              change bodyPost _ _ _ _ _ (putR wr (w.heap.size + 1) 0 0 0 0 0 0 0)
              clear c0 c1 c2 c3 c4 c5 c6
              obtain ⟨c0, c1, c2, c3, c4, c5, c6⟩ := (putR_row HR2.out 0 0 0 0 0 0 0).r7
              have hB := putR_below HB.out (show w.heap.size ≤ w.heap.size + 1 by omega) 0 0 0 0 0 0 0
              generalize putR wr (w.heap.size + 1) 0 0 0 0 0 0 0 = W' at *
              simp only [Nat.zero_add] at c0 c1 c2 c3 c4 c5 c6
              refine bodyPost_ret (v := .tuple #[.agg #[.int .i64 0, .int .i64 0, .int .i64 0, .int .i64 0, .int .i64 0, .int .i64 0, .int .i64 0], .int .i64 7]) (by simp [results, Tryd.results40, c0, c1, c2, c3, c4, c5, c6, go_sem]) rfl ⟨?_, hB⟩
              rw [HWE.out]
              rfl
            · have h2 : 100000 < y := by
                rcases Int.lt_or_le 100000 y with h2 | h2
                · exact h2
                · exact absurd (fitB_iff.2 ⟨by omega, h2⟩) hf
              clear hf
              obtain ⟨c0, c1, c2, c3, c4, c5, c6⟩ := HR2.out.r7
              simp only [Nat.zero_add] at c0 c1 c2 c3 c4 c5 c6
              have f0 := HR2.out.frozen 0
              have f1 := HR2.out.frozen 1
              have f2 := HR2.out.frozen 2
              have f3 := HR2.out.frozen 3
              have f4 := HR2.out.frozen 4
              have f5 := HR2.out.frozen 5
              have f6 := HR2.out.frozen 6
              go_wp2
              change bodyPost _ _ _ _ _ (putR wr (w.heap.size + 1) 0 0 0 0 0 0 0)
              clear c0 c1 c2 c3 c4 c5 c6
              obtain ⟨c0, c1, c2, c3, c4, c5, c6⟩ := (putR_row HR2.out 0 0 0 0 0 0 0).r7
              have hB := putR_below HB.out (show w.heap.size ≤ w.heap.size + 1 by omega) 0 0 0 0 0 0 0
              generalize putR wr (w.heap.size + 1) 0 0 0 0 0 0 0 = W' at *
              simp only [Nat.zero_add] at c0 c1 c2 c3 c4 c5 c6
              refine bodyPost_ret (v := .tuple #[.agg #[.int .i64 0, .int .i64 0, .int .i64 0, .int .i64 0, .int .i64 0, .int .i64 0, .int .i64 0], .int .i64 7]) (by simp [results, Tryd.results40, c0, c1, c2, c3, c4, c5, c6, go_sem]) rfl ⟨?_, hB⟩
              rw [HWE.out]
              rfl
        · obtain rfl : i = 6 := by omega
          have hl6 : mixL [x0.tdiv (g : Int), x1.tdiv (g : Int), x2.tdiv (g : Int), x3.tdiv (g : Int), x4.tdiv (g : Int), x5.tdiv (g : Int)] zero6 6 = [x0.tdiv (g : Int), x1.tdiv (g : Int), x2.tdiv (g : Int), x3.tdiv (g : Int), x4.tdiv (g : Int), x5.tdiv (g : Int)] := rfl
          have hr3 := HR3.out
          rw [hl6] at hr3
          have hall : [x0.tdiv (g : Int), x1.tdiv (g : Int), x2.tdiv (g : Int), x3.tdiv (g : Int), x4.tdiv (g : Int), x5.tdiv (g : Int)].all fitB = true := List.all_eq_true.2 fun y hy => HOK.out y (by simpa using hy)
          have hWE := HW.out
          rw [if_pos (by rw [fits_list, hall]; unfold wiB; rw [decide_eq_true (show 1 ≤ (e : Int) by omega), decide_eq_true (show (e : Int) ≤ 1000 by omega)]; rfl)] at hWE
          have HWE := Lib.hid hWE
          clear hWE HW hl6 hall HOK HR3
          generalize x0.tdiv (g : Int) = y0 at *
          generalize x1.tdiv (g : Int) = y1 at *
          generalize x2.tdiv (g : Int) = y2 at *
          generalize x3.tdiv (g : Int) = y3 at *
          generalize x4.tdiv (g : Int) = y4 at *
          generalize x5.tdiv (g : Int) = y5 at *
          have hr4 := hr3.set 6 (e : Int)
          have hr2' := HR2.out.other (k := B2) (i := 6) (.int .i64 (e : Int)) (Ne.symm hB2b)
          have m6 := hr3.cell (i := 6) (x := 0) rfl
          have g6 := hr3.frozen 6
          have hb4 : Below w.heap.size w (wr.setCell ⟨B2, 6, none⟩ (.int .i64 (e : Int))) := HB.out.setCell (by show w.heap.size ≤ B2; omega) _
          have HR4 := Lib.hid (show RowI (wr.setCell ⟨B2, 6, none⟩ (.int .i64 (e : Int))) B2 40 [y0, y1, y2, y3, y4, y5, (e : Int)] from hr4)
          clear HR2 HB hr3 hr4
          have HR2 := Lib.hid hr2'
          have HB := Lib.hid hb4
          clear hr2' hb4
          obtain ⟨n0, n1, n2, n3, n4, n5, n6⟩ := HR4.out.r7
          simp only [Nat.zero_add] at n0 n1 n2 n3 n4 n5 n6
          obtain ⟨c0, c1, c2, c3, c4, c5, c6⟩ := HR2.out.r7
          simp only [Nat.zero_add] at c0 c1 c2 c3 c4 c5 c6
          have f0 := HR2.out.frozen 0
          have f1 := HR2.out.frozen 1
          have f2 := HR2.out.frozen 2
          have f3 := HR2.out.frozen 3
          have f4 := HR2.out.frozen 4
          have f5 := HR2.out.frozen 5
          have f6 := HR2.out.frozen 6
          go_wp2
          change bodyPost _ _ _ _ _ (putR (wr.setCell ⟨B2, 6, none⟩ (.int .i64 (e : Int))) (w.heap.size + 1) y0 y1 y2 y3 y4 y5 (e : Int))
          clear c0 c1 c2 c3 c4 c5 c6
          obtain ⟨c0, c1, c2, c3, c4, c5, c6⟩ := (putR_row HR2.out y0 y1 y2 y3 y4 y5 (e : Int)).r7
          have hB := putR_below HB.out (show w.heap.size ≤ w.heap.size + 1 by omega) y0 y1 y2 y3 y4 y5 (e : Int)
          generalize putR (wr.setCell ⟨B2, 6, none⟩ (.int .i64 (e : Int))) (w.heap.size + 1) y0 y1 y2 y3 y4 y5 (e : Int) = W' at *
          simp only [Nat.zero_add] at c0 c1 c2 c3 c4 c5 c6
          refine bodyPost_ret (v := .tuple #[.agg #[.int .i64 y0, .int .i64 y1, .int .i64 y2, .int .i64 y3, .int .i64 y4, .int .i64 y5, .int .i64 (e : Int)], .int .i64 0]) (by simp [results, Tryd.results40, c0, c1, c2, c3, c4, c5, c6, go_sem]) rfl ⟨?_, hB⟩
          rw [HWE.out]
          rfl
end Go.Proofs.YtlmcafcebidliaaDoor
