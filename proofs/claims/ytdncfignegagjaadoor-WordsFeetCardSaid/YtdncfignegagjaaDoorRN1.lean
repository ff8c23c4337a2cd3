import Derived.Test.YtdncfignegagjaaDoorR3
namespace Go.Proofs.YtdncfignegagjaaDoor
open Go.RowKit

set_option maxHeartbeats 1000000 in
theorem names_any (w : World) :
    Calls Tryd.prog 52 #[] w fun e w' => e = .returned (.slice (some ⟨w.heap.size, 0, none⟩) 12 12) ∧ Below w.heap.size w w' ∧
      (∀ i, i < 12 → w'.cell? ⟨w.heap.size, i, none⟩ = some (.string ⟨(nmL.getD i []).toArray⟩)) ∧ w.heap.size < w'.heap.size := by
  go_enter Tryd.func52, Tryd.ntmps52
  go_wp2_with fail
  go_ret
  refine ⟨rfl, (Below.refl _ _).alloc (Nat.le_refl _) _, fun i hi => ?_, by simp⟩
  match i, hi with
  | 0, _ | 1, _ | 2, _ | 3, _ | 4, _ | 5, _ | 6, _ | 7, _ | 8, _ | 9, _ | 10, _ | 11, _ => simp [nmL]

set_option maxHeartbeats 1000000 in
set_option maxRecDepth 100000 in
theorem rnote_any (n : Int) (w : World) :
    Calls Tryd.prog 23 #[.int .i64 n] w fun e w' => e = .returned (strV (noteW n)) ∧ Below w.heap.size w w' := by
  by_cases h : 0 ≤ n ∧ n ≤ 127
  · obtain ⟨m, rfl⟩ : ∃ m : Nat, n = (m : Int) := ⟨n.toNat, by omega⟩
    have hm : m ≤ 127 := by omega
    have hf := Lib.hid (show noteW (m : Int) = (nmL.getD (m % 12) [] ++ Lib.itoa (((m / 12 : Nat) : Int) - 1), 0) by rw [noteW, if_pos h]; simp)
    have hm0 : 0 ≤ (m : Int) := h.1
    have hm1 : (m : Int) ≤ 127 := h.2
    have e1 : ((m : Int)).tmod 12 = ((m % 12 : Nat) : Int) := by simp [Int.tmod_eq_emod_of_nonneg]
    have e2 : ((m : Int)).tdiv 12 = ((m / 12 : Nat) : Int) := by simp [Int.tdiv_eq_ediv_of_nonneg]
    have b1 : 0 ≤ ((m % 12 : Nat) : Int) := by omega
    have b2 : ((m % 12 : Nat) : Int) < 12 := by omega
    have b3 : 0 ≤ ((m / 12 : Nat) : Int) := by omega
    have b4 : ((m / 12 : Nat) : Int) ≤ 10 := by omega
    have hq12 : m % 12 < 12 := by omega
    clear h
    generalize m % 12 = q at *
    generalize m / 12 = r at *
    have HD := Lib.hid (fun (w' : World) => rdigits_any ((r : Int) - 1) (by omega) (by omega) w')
    have l1 := nmL_len q
    have l2 := Lib.itoa_length_le ((r : Int) - 1) (by omega) (by omega)
    have l3 : ¬ 9223372036854775807 < (nmL[q]?.getD []).length + (Lib.itoa ((r : Int) - 1)).length := by omega
    have e4 : IntKind.i64.wrap (r : Int) = (r : Int) := IntWalk.i64_in _ (by omega)
    have e3 : IntKind.i64.wrap ((r : Int) - 1) = (r : Int) - 1 := IntWalk.i64_in _ (by omega)
    go_enter Tryd.func23, Tryd.ntmps23
    go_wp2_with fail
    go_region_with (first
        | (go_at_call 52; refine (names_any _).mono ?_; rintro e w' ⟨rfl, hb0, hc, hlt⟩; have hq : w'.cell? ⟨w.heap.size, q, none⟩ = some (.string ⟨(nmL.getD q []).toArray⟩) := hc q hq12; clear hc)
        | (go_at_call 21; refine (HD.out _).mono ?_; rintro e w' ⟨rfl, hb⟩; have hq' := cell_later hb hq))
    go_wp2
    all_goals go_ret2
    all_goals exact ⟨ret_strV2 (by rw [hf.out]; simp), undrew (hb0.trans (hb.mono hb0.size))⟩
  · have hf := Lib.hid (show noteW n = ([], 7) by rw [noteW, if_neg h])
    by_cases h0 : n < 0
    · clear h
      go_enter Tryd.func23, Tryd.ntmps23
      go_wp2_with fail
      go_ret2
      exact ⟨ret_strV hf.out, Below.refl _ _⟩
    · have h1 : 127 < n := by omega
      clear h
      go_enter Tryd.func23, Tryd.ntmps23
      go_wp2_with fail
      go_ret2
      exact ⟨ret_strV hf.out, Below.refl _ _⟩
end Go.Proofs.YtdncfignegagjaaDoor
