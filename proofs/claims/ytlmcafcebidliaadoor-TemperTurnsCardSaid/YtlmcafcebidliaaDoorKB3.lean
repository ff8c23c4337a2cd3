import Derived.Test.YtlmcafcebidliaaDoorKBA
namespace Go.Proofs.YtlmcafcebidliaaDoor
open Go.RowKit

theorem belA (w : World) (o : Obj) : Below w.heap.size w (w.alloc o) := (Below.refl _ _).alloc (Nat.le_refl _) _
theorem idx6 (x0 x1 x2 x3 x4 x5 : Int) (i : Nat) (n : Int) (h : [x0, x1, x2, x3, x4, x5][i]? = some n) (w : World) :
    (Instr.index 38 (.agg #[.int .i64 x0, .int .i64 x1, .int .i64 x2, .int .i64 x3, .int .i64 x4, .int .i64 x5]) (.int .i64 (i : Int))).run Tryd.prog w = .ok (.int .i64 n) w := by
  match i, h with
  | 0, h => cases h; simp [Instr.index, run_underlying Tryd.underlying38, asIntOf, go_sem]
  | 1, h => cases h; simp [Instr.index, run_underlying Tryd.underlying38, asIntOf, go_sem]
  | 2, h => cases h; simp [Instr.index, run_underlying Tryd.underlying38, asIntOf, go_sem]
  | 3, h => cases h; simp [Instr.index, run_underlying Tryd.underlying38, asIntOf, go_sem]
  | 4, h => cases h; simp [Instr.index, run_underlying Tryd.underlying38, asIntOf, go_sem]
  | 5, h => cases h; simp [Instr.index, run_underlying Tryd.underlying38, asIntOf, go_sem]
def FiRel (l : List Int) (iv : Value) : Prop := ∃ i : Nat, i ≤ 6 ∧ iv = .int .i64 (i : Int) ∧ (∀ n ∈ l.take i, fitB n = true)
theorem fits_list {x0 x1 x2 x3 x4 x5 dn : Int} : Rt.fits ⟨⟨x0, x1, x2, x3, x4, x5⟩, dn⟩ = (([x0, x1, x2, x3, x4, x5].all fitB) && wiB dn 1 1000) := by
  unfold Rt.fits wiB
  simp only [List.all_cons, List.all_nil, Bool.and_true, Bool.and_assoc]
theorem wiB_fit (n : Int) : wiB n (-100000) 100000 = fitB n := rfl
set_option maxRecDepth 100000 in
set_option maxHeartbeats 1000000 in
theorem fits_any (x0 x1 x2 x3 x4 x5 dn : Int) (w : World) :
    Calls Tryd.prog 88 #[.agg #[.int .i64 x0, .int .i64 x1, .int .i64 x2, .int .i64 x3, .int .i64 x4, .int .i64 x5, .int .i64 dn]] w fun e w' => e = .returned (.bool (Rt.fits ⟨⟨x0, x1, x2, x3, x4, x5⟩, dn⟩)) ∧ Below w.heap.size w w' := by
  go_enter Tryd.func88, Tryd.ntmps88
  go_wp2
  go_loop [7] (fun iv => FiRel [x0, x1, x2, x3, x4, x5] iv) (fun iv => 6 - (intOf iv).toNat)
  case atStart => exact ⟨0, Nat.zero_le _, rfl, fun n h => by cases h⟩
  case round =>
    obtain ⟨i, hi, rfl, hok⟩ := hrel
    have HOK := Lib.hid hok
    clear hok
    by_cases hil : i < 6
    · obtain ⟨n, hn⟩ : ∃ n, [x0, x1, x2, x3, x4, x5][i]? = some n := ⟨[x0, x1, x2, x3, x4, x5][i], List.getElem?_eq_getElem _⟩
      have hix := idx6 x0 x1 x2 x3 x4 x5 i n hn
      have hilI : (i : Int) < 6 := by omega
      have HN := Lib.hid hn
      clear hn
      go_wp2_with fail
      refine (within_any n (-100000) 100000 _).mono ?_
      rintro e w2 ⟨he, hw2⟩
      subst he
      subst hw2
      rw [wiB_fit]
      by_cases hf : fitB n = true
      · rw [hf]
        have HF := Lib.hid hf
        clear hf
        go_wp2
        refine ⟨⟨i + 1, by omega, by go_num, fun y hy => ?_⟩, by simp [intOf]; omega⟩
        rw [List.take_add_one, HN.out, List.mem_append] at hy
        rcases hy with h | h
        · exact HOK.out y h
        · simp at h; subst h; exact HF.out
      · have hf : fitB n = false := by simpa using hf
        rw [hf]
        have HF := Lib.hid hf
        clear hf
        go_wp2
        go_ret
        refine ⟨?_, belA w _⟩
        rw [fits_list]
        have h : [x0, x1, x2, x3, x4, x5].all fitB = false := by
          rw [Bool.eq_false_iff]
          intro h
          have := List.all_eq_true.1 h n (List.mem_of_getElem? HN.out)
          rw [HF.out] at this
          cases this
        rw [h]
        rfl
    · obtain rfl : i = 6 := by omega
      go_wp2_with fail
      refine (within_any dn 1 1000 _).mono ?_
      rintro e w2 ⟨he, hw2⟩
      subst he
      subst hw2
      go_wp2
      go_ret
      refine ⟨?_, belA w _⟩
      rw [fits_list]
      have h : [x0, x1, x2, x3, x4, x5].all fitB = true := List.all_eq_true.2 fun y hy => HOK.out y (by simpa using hy)
      rw [h]
      rfl
def CoRel (w : World) (l : List Int) (d : Int) (dv iv : Value) (wr : World) : Prop := ∃ (i : Nat) (e : Int), i ≤ 6 ∧ iv = .int .i64 (i : Int) ∧ dv = .int .i64 e ∧ (-1000000000000 ≤ e ∧ e ≤ 1000000000000) ∧ (gl (l.drop i) e.natAbs = gl l d.natAbs) ∧ (0 < i → 0 ≤ e) ∧ Below w.heap.size w wr
theorem gl_bound : ∀ (l : List Int) (d M : Nat), d ≤ M → (∀ n ∈ l, n.natAbs ≤ M) → gl l d ≤ M
  | [], _, _, h, _ => h
  | x :: r, d, M, h, hl => by
    refine gl_bound r (Nat.gcd d x.natAbs) M ?_ (fun n hn => hl n (List.mem_cons_of_mem _ hn))
    rcases Nat.eq_zero_or_pos d with h0 | h0
    · subst h0; rw [Nat.gcd_zero_left]; exact hl x List.mem_cons_self
    · exact Nat.le_trans (Nat.gcd_le_left _ h0) h
set_option maxRecDepth 100000 in
set_option maxHeartbeats 1000000 in
theorem common_any (x0 x1 x2 x3 x4 x5 d : Int) (w : World) (hd : -1000000000000 ≤ d ∧ d ≤ 1000000000000) (hx : ∀ n ∈ [x0, x1, x2, x3, x4, x5], -1000000000000 ≤ n ∧ n ≤ 1000000000000) :
    Calls Tryd.prog 94 #[.agg #[.int .i64 x0, .int .i64 x1, .int .i64 x2, .int .i64 x3, .int .i64 x4, .int .i64 x5], .int .i64 d] w fun e w' => e = .returned (.int .i64 ((V6.g ⟨x0, x1, x2, x3, x4, x5⟩ d : Nat) : Int)) ∧ Below w.heap.size w w' := by
  have HX := Lib.hid hx
  clear hx
  go_enter Tryd.func94, Tryd.ntmps94
  go_wp2
  go_loopw [1, 8] (fun dv iv wr => CoRel w [x0, x1, x2, x3, x4, x5] d dv iv wr) (fun _ iv _ => 6 - (intOf iv).toNat)
  case atStart => exact ⟨0, d, Nat.zero_le _, rfl, rfl, hd, rfl, fun h => absurd h (by omega), belA w _⟩
  case round =>
    obtain ⟨i, e, hi, rfl, rfl, he, hg, hp, hb⟩ := hrel
    have HG := Lib.hid hg
    have HB := Lib.hid hb
    have HP := Lib.hid hp
    clear hg hb hp
    by_cases hil : i < 6
    · obtain ⟨n, hn⟩ : ∃ n, [x0, x1, x2, x3, x4, x5][i]? = some n := ⟨[x0, x1, x2, x3, x4, x5][i], List.getElem?_eq_getElem _⟩
      have hix := idx6 x0 x1 x2 x3 x4 x5 i n hn
      have hilI : (i : Int) < 6 := by omega
      have hnb := HX.out n (List.mem_of_getElem? hn)
      have hdr : [x0, x1, x2, x3, x4, x5].drop i = n :: [x0, x1, x2, x3, x4, x5].drop (i + 1) := by
        have h1 := List.drop_eq_getElem_cons (l := [x0, x1, x2, x3, x4, x5]) (i := i) (by simpa using hil)
        rw [h1]
        congr 1
        rw [List.getElem?_eq_getElem (by simpa using hil)] at hn
        exact Option.some.inj hn
      have HDR := Lib.hid hdr
      clear hn hdr
      go_wp2_with fail
      refine (gcd_int e n 1000000000000 _ (by omega) (by omega) (by omega) (by omega) (by omega)).mono ?_
      rintro e2 w2 ⟨he2, hdr2⟩
      subst he2
      have hgb : Nat.gcd e.natAbs n.natAbs ≤ 1000000000000 := gl_bound [n] e.natAbs 1000000000000 (by omega) (fun m hm => by simp at hm; subst hm; omega)
      generalize hq : Nat.gcd e.natAbs n.natAbs = q at *
      have HQ := Lib.hid hq
      clear hq
      go_wp2
      refine ⟨⟨i + 1, (q : Int), by omega, by go_num, rfl, by omega, ?_, fun _ => by omega, HB.out.trans (hdr2.below.mono HB.out.size)⟩, by simp [intOf]; omega⟩
      rw [← HG.out, HDR.out, Int.natAbs_natCast, ← HQ.out]
      rfl
    · obtain rfl : i = 6 := by omega
      have hq := HG.out
      have hp := HP.out (by omega)
      have he2 : e = ((V6.g ⟨x0, x1, x2, x3, x4, x5⟩ d : Nat) : Int) := by
        show e = ((gl [x0, x1, x2, x3, x4, x5] d.natAbs : Nat) : Int)
        rw [← hq]
        show e = ((e.natAbs : Nat) : Int)
        omega
      have HE := Lib.hid he2
      clear hq he2
      go_wp2
      go_ret
      exact ⟨ret_int HE.out, HB.out⟩
end Go.Proofs.YtlmcafcebidliaaDoor
