import Derived.Test.YtdncfignegagjaaDoorW7
namespace Go.Proofs.YtdncfignegagjaaDoor
open Go.RowKit

def feetW (num den : Int) : List UInt8 × Int :=
  if footB num den then
    if den = 1 then (Lib.itoa num, 0)
    else if num < den then (Lib.itoa (num % den) ++ [47] ++ Lib.itoa den, 0)
    else (Lib.itoa (num / den) ++ [43] ++ (Lib.itoa (num % den) ++ [47] ++ Lib.itoa den), 0)
  else ([], 2)

/-- What holds of the world while a footage lies boxed in block B. -/
structure FS (w : World) (B : Nat) (num den : Int) (w' : World) : Prop where
  tabs : Tabs w'
  num : w'.cell? ⟨B, 0, none⟩ = some (.int .i64 num)
  den : w'.cell? ⟨B, 1, none⟩ = some (.int .i64 den)
  bel : Below w.heap.size w w'
theorem FS.below {w : World} {B : Nat} {num den : Int} {w' w'' : World} (h : FS w B num den w') (hb : Below w'.heap.size w' w'') : FS w B num den w'' :=
  ⟨h.tabs.below hb, cell_later hb h.num, cell_later hb h.den, h.bel.trans (hb.mono h.bel.size)⟩
theorem FS.drew {w : World} {B : Nat} {num den : Int} {w' : World} (h : FS w B num den w') : FS w B num den w'.drew := h.below (Below.refl _ _).drew
theorem FS.of_box {w w' : World} {num den : Int} {t : TypeId} (hT : Tabs w) (hb : Below (w.alloc (.cells #[.int .i64 num, .int .i64 den] t)).heap.size (w.alloc (.cells #[.int .i64 num, .int .i64 den] t)) w') : FS w w.heap.size num den w' := by
  have hb0 : Below w.heap.size w (w.alloc (.cells #[.int .i64 num, .int .i64 den] t)) := (Below.refl _ _).alloc (Nat.le_refl _) _
  have c0 : (w.alloc (.cells #[.int .i64 num, .int .i64 den] t)).cell? ⟨w.heap.size, 0, none⟩ = some (.int .i64 num) := by simp
  have c1 : (w.alloc (.cells #[.int .i64 num, .int .i64 den] t)).cell? ⟨w.heap.size, 1, none⟩ = some (.int .i64 den) := by simp
  exact ⟨(hT.below hb0).below hb, cell_later hb c0, cell_later hb c1, hb0.trans (hb.mono hb0.size)⟩

theorem feetW_no {num den : Int} (h : footB num den = false) : feetW num den = ([], 2) := by simp [feetW, h]
theorem feetW_one {num : Int} (h : footB num 1 = true) : feetW num 1 = (Lib.itoa num, 0) := by simp [feetW, h]
theorem footB_bounds {num den : Int} (h : footB num den = true) : 1 ≤ den ∧ den ≤ 15 ∧ 1 ≤ num ∧ num ≤ 64 * den := by
  unfold footB at h
  simp only [Bool.and_eq_true, decide_eq_true_eq] at h
  omega

set_option maxHeartbeats 1000000 in
set_option maxRecDepth 100000 in
theorem feet_any (num den : Int) (w : World) (hT : Tabs w) (hn : -9223372036854775808 ≤ num ∧ num ≤ 9223372036854775807) (hd : -9223372036854775808 ≤ den ∧ den ≤ 9223372036854775807) :
    Calls Tryd.prog 26 #[.agg #[.int .i64 num, .int .i64 den]] w fun e w' => e = .returned (strV (feetW num den)) ∧ Below w.heap.size w w' := by
  have HT := Lib.hid hT
  cases hv : footB num den
  · have hf := Lib.hid (feetW_no hv)
    have HV := Lib.hid hv
    clear hv
    go_enter Tryd.func26, Tryd.ntmps26
    go_wp2_with fail
    refine (footage_any num den _ hn hd).mono ?_
    rintro e w1 ⟨rfl, hb⟩
    rw [HV.out]
    have hS := FS.of_box HT.out hb
    go_wp2_with fail
    go_ret2
    exact ⟨ret_strV hf.out, hS.bel⟩
  have HV := Lib.hid hv
  have hbd := footB_bounds hv
  by_cases h1 : den = 1
  · subst h1
    have hf := Lib.hid (feetW_one hv)
    clear hv
    go_enter Tryd.func26, Tryd.ntmps26
    go_wp2_with fail
    refine (footage_any num 1 _ hn hd).mono ?_
    rintro e w1 ⟨rfl, hb⟩
    rw [HV.out]
    have hS := FS.of_box HT.out hb
    have c0 := hS.num
    have c1 := hS.den
    go_wp2_with fail
    refine (digits_any num _ hS.tabs hn.1 hn.2).mono ?_
    rintro e w2 ⟨rfl, hb2⟩
    go_wp2_with fail
    go_ret2
    exact ⟨ret_strV hf.out, (hS.below hb2).bel⟩
  · have e1 : (den == 1) = false := by simp [h1]
    obtain ⟨a, rfl⟩ : ∃ a : Nat, num = a := ⟨num.toNat, by omega⟩
    obtain ⟨b, rfl⟩ : ∃ b : Nat, den = b := ⟨den.toNat, by omega⟩
    have hq0 : 0 ≤ (a : Int) % (b : Int) := Int.emod_nonneg _ (by omega)
    have hq1 : (a : Int) % (b : Int) < b := Int.emod_lt_of_pos _ (by omega)
    have ht : (a : Int).tmod (b : Int) = (a : Int) % (b : Int) := Int.tmod_eq_emod_of_nonneg (by omega)
    have hr0 : 0 ≤ (a : Int) / (b : Int) := Int.ediv_nonneg (by omega) (by omega)
    have hr1 : (a : Int) / (b : Int) ≤ a := Int.ediv_le_self _ (by omega)
    have htd : (a : Int).tdiv (b : Int) = (a : Int) / (b : Int) := Int.tdiv_eq_ediv_of_nonneg (by omega)
    have hff : feetW a b = if (a : Int) < b then (Lib.itoa ((a : Int) % b) ++ [47] ++ Lib.itoa b, 0) else (Lib.itoa ((a : Int) / b) ++ [43] ++ (Lib.itoa ((a : Int) % b) ++ [47] ++ Lib.itoa b), 0) := by
      rw [feetW, if_pos hv, if_neg h1]
    have HF := Lib.hid hff
    clear hff hv
    generalize hq : (a : Int) % (b : Int) = q at *
    generalize hr : (a : Int) / (b : Int) = r at *
    have Hq := Lib.hid hq
    have Hr := Lib.hid hr
    clear hq hr
    have l1 := Lib.itoa_length_le q (by omega) (by omega)
    have l2 := Lib.itoa_length_le b (by omega) (by omega)
    have l3 := Lib.itoa_length_le r (by omega) (by omega)
    have hb0 : ¬ b = 0 := by omega
    have m1 : ¬ 9223372036854775807 < (Lib.itoa q).length + 1 := by omega
    have m2 : ¬ 9223372036854775807 < (Lib.itoa q).length + 1 + (Lib.itoa b).length := by omega
    go_enter Tryd.func26, Tryd.ntmps26
    go_wp2_with fail
    refine (footage_any a b _ hn hd).mono ?_
    rintro e w1 ⟨rfl, hb⟩
    rw [HV.out]
    have hS := FS.of_box HT.out hb
    have c0 := hS.num
    have c1 := hS.den
    go_wp2_with fail
    go_region_held3 (fun w' => FS w w.heap.size a b w' ∧ w'.cell? ⟨w.heap.size, 0, none⟩ = some (.int .i64 a) ∧ w'.cell? ⟨w.heap.size, 1, none⟩ = some (.int .i64 b)) (refine ⟨?_, ?_, ?_⟩ <;> first | assumption | (exact FS.drew ‹_›) | go_keep)
      (first | (go_at_call 20; refine Calls.mono (digits_any _ _ ?_ ?_ ?_) ?_; (first | exact FS.tabs ‹_› | exact (FS.drew ‹_›).tabs); (omega); (omega); rintro e w2 ⟨rfl, hb2⟩; have hS2 := FS.below (by first | assumption | exact FS.drew ‹_›) hb2; have c0' := hS2.num; have c1' := hS2.den))
    all_goals
      by_cases h5 : (a : Int) < b
      · go_wp2_with fail
        go_ret2
        exact ⟨ret_strV2 (by rw [HF.out, if_pos h5]; simp), FS.bel (by assumption)⟩
      · go_wp2_with fail
        refine Calls.mono (digits_any r _ ?_ ?_ ?_) ?_
        · exact FS.tabs (by assumption)
        · omega
        · omega
        rintro e w3 ⟨rfl, hb3⟩
        have hS3 := FS.below (by assumption) hb3
        go_wp2_with fail
        go_ret2
        exact ⟨ret_strV2 (by rw [HF.out, if_neg (by omega)]; simp), hS3.bel⟩
end Go.Proofs.YtdncfignegagjaaDoor
