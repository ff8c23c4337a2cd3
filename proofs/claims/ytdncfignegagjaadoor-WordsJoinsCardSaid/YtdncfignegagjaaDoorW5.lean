import Derived.Test.YtdncfignegagjaaDoorW4
import Derived.Lib.ItoaLen
import Derived.Deep.RegionHeld3
import Derived.Deep.RegionWith
import Derived.Deep.DeepCutAuto
namespace Go.Proofs.YtdncfignegagjaaDoor
open Go.RowKit

def noteW (n : Int) : List UInt8 × Int := if 0 ≤ n ∧ n ≤ 127 then (nmL.getD (n.toNat % 12) [] ++ Lib.itoa (((n.toNat / 12 : Nat) : Int) - 1), 0) else ([], 7)
def strV (x : List UInt8 × Int) : Value := .tuple #[.string ⟨x.1.toArray⟩, .int .i64 x.2]
theorem ret_strV {x : List UInt8 × Int} {a : List UInt8} {b : Int} (h : x = (a, b)) : Ending.returned (.tuple #[.string ⟨a.toArray⟩, .int .i64 b]) = .returned (strV x) := by rw [h]; rfl
theorem ret_strV2 {x : List UInt8 × Int} {a : ByteArray} {b : Int} (h : x = (a.data.toList, b)) : Ending.returned (.tuple #[.string a, .int .i64 b]) = .returned (strV x) := by rw [h]; rfl
theorem bapp (a b : ByteArray) : (a ++ b).data.toList = a.data.toList ++ b.data.toList := by simp
theorem undrew {w w' : World} (h : Below w.drew.heap.size w.drew w') : Below w.heap.size w w' := (Below.refl w.heap.size w).drew.trans (h.mono (Nat.le_refl _))
theorem undrewN {w w' : World} {n : Nat} (h : Below (w.drewN n).heap.size (w.drewN n) w') : Below w.heap.size w w' := (below_drewN w n).trans (h.mono (below_drewN w n).size)
theorem noteB_yes {n : Int} (h : 0 ≤ n ∧ n ≤ 127) : noteB n = true := by simp [noteB, h]
theorem noteB_no {n : Int} (h : ¬ (0 ≤ n ∧ n ≤ 127)) : noteB n = false := by unfold noteB; simp; omega

theorem nmL_len (q : Nat) : (nmL[q]?.getD []).length ≤ 2 := by
  rcases Nat.lt_or_ge q 12 with h | h
  · have : ∀ i : Fin 12, (nmL[i.val]?.getD []).length ≤ 2 := by decide
    exact this ⟨q, h⟩
  · rw [List.getElem?_eq_none (by simpa [nmL] using h)]; simp
set_option maxHeartbeats 1000000 in
set_option maxRecDepth 100000 in
theorem noteS_any (n : Int) (w : World) (hT : Tabs w) :
    Calls Tryd.prog 22 #[.int .i64 n] w fun e w' => e = .returned (strV (noteW n)) ∧ Below w.heap.size w w' := by
  by_cases h : 0 ≤ n ∧ n ≤ 127
  · obtain ⟨m, rfl⟩ : ∃ m : Nat, n = (m : Int) := ⟨n.toNat, by omega⟩
    have hm : m ≤ 127 := by omega
    have hf := Lib.hid (show noteW (m : Int) = (nmL.getD (m % 12) [] ++ Lib.itoa (((m / 12 : Nat) : Int) - 1), 0) by rw [noteW, if_pos h]; simp)
    have Hn := Lib.hid (noteB_yes h)
    have hc := hT.names (m % 12) (by omega)
    have HT := Lib.hid hT
    have hbel := Below.refl w.heap.size w
    have e1 : ((m : Int)).tmod 12 = ((m % 12 : Nat) : Int) := by simp [Int.tmod_eq_emod_of_nonneg]
    have e2 : ((m : Int)).tdiv 12 = ((m / 12 : Nat) : Int) := by simp [Int.tdiv_eq_ediv_of_nonneg]
    have b1 : 0 ≤ ((m % 12 : Nat) : Int) := by omega
    have b2 : ((m % 12 : Nat) : Int) < 12 := by omega
    have b3 : 0 ≤ ((m / 12 : Nat) : Int) := by omega
    have b4 : ((m / 12 : Nat) : Int) ≤ 10 := by omega
    clear hT h
    generalize m % 12 = q at *
    generalize m / 12 = r at *
    have HD := Lib.hid (fun (w' : World) (h : Tabs w') => digits_any ((r : Int) - 1) w' h (by omega) (by omega))
    have l1 := nmL_len q
    have l2 := Lib.itoa_length_le ((r : Int) - 1) (by omega) (by omega)
    have l3 : ¬ 9223372036854775807 < (nmL[q]?.getD []).length + (Lib.itoa ((r : Int) - 1)).length := by omega
    have e4 : IntKind.i64.wrap (r : Int) = (r : Int) := IntWalk.i64_in _ (by omega)
    have e3 : IntKind.i64.wrap ((r : Int) - 1) = (r : Int) - 1 := IntWalk.i64_in _ (by omega)
    go_enter Tryd.func22, Tryd.ntmps22
    go_wp2_with (go_at_call 51; refine (note_any _ _).mono ?_; rintro e w' ⟨rfl, rfl⟩; rw [Hn.out])
    go_region_held3 (fun w' => w'.cell? ⟨0, q, none⟩ = some (.string ⟨(nmL.getD q []).toArray⟩)) (go_keep)
      (first | (go_at_call 20; refine (HD.out _ (by first | exact HT.out.drew | exact HT.out | exact HT.out.drewN _)).mono ?_; rintro e w' ⟨rfl, hb⟩; have hq := cell_later hb hc))
    go_wp2
    all_goals go_ret2
    all_goals exact ⟨ret_strV2 (by rw [hf.out]; simp), undrew hb⟩
  · have hf := Lib.hid (show noteW n = ([], 7) by rw [noteW, if_neg h])
    have Hn := Lib.hid (noteB_no h)
    clear h
    go_enter Tryd.func22, Tryd.ntmps22
    go_wp2_with (go_at_call 51; refine (note_any _ _).mono ?_; rintro e w' ⟨rfl, rfl⟩; rw [Hn.out])
    go_ret2
    exact ⟨ret_strV hf.out, Below.refl _ _⟩
end Go.Proofs.YtdncfignegagjaaDoor
