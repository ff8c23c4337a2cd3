import Derived.Test.YtdncfignegagjaaDoorW2
namespace Go.Proofs.YtdncfignegagjaaDoor
open Go.RowKit

/-! How the library's ends of a world are 'Below'. -/
theorem below_grow (w : World) (os : Array Obj) : Below w.heap.size w (Go.Sort.grow w os) where
  os := rfl
  tape := rfl
  output := rfl
  size := by simp [Go.Sort.grow]
  block := fun k hk => by
    show (w.heap ++ os)[k]? = w.heap[k]?
    rw [Array.getElem?_append_left hk]
theorem below_drewN_grow (w : World) (k : Nat) (os : Array Obj) : Below w.heap.size w (Go.Sort.grow (w.drewN k) os) :=
  (below_drewN w k).trans ((below_grow (w.drewN k) os).mono (below_drewN w k).size)

set_option maxHeartbeats 400000 in
theorem digits_any (n : Int) (w : World) (hT : Tabs w) (h0 : -9223372036854775808 ≤ n) (h1 : n ≤ 9223372036854775807) :
    Calls Tryd.prog 20 #[.int .i64 n] w fun e w' => e = .returned (.string ⟨(Lib.itoa n).toArray⟩) ∧ Below w.heap.size w w' := by
  have hp := hT.pow
  go_enter Tryd.func20, Tryd.ntmps20
  go_wp2_with (go_at_call 50; refine (Tryd.strconv_FormatInt_10 n h0 h1 _ hp).mono ?_; rintro e w' ⟨rfl, k, os, rfl⟩)
  go_ret
  exact ⟨rfl, below_drewN_grow _ _ _⟩

def wholeB (l : List UInt8) : Bool :=
  decide (l = [48]) || (decide (Lib.trimPrefix l [45] ≠ []) && decide (((Lib.trimPrefix l [45]).headD 0).toNat ≠ 48) && inR 48 57 (Lib.trimPrefix l [45]))

theorem wholeB_zero {l : List UInt8} (h : l = [48]) : wholeB l = true := by simp [wholeB, h]
theorem wholeB_empty {l : List UInt8} (h : l ≠ [48]) (h1 : Lib.trimPrefix l [45] = []) : wholeB l = false := by simp [wholeB, h, h1]
theorem wholeB_lead {l : List UInt8} (h : l ≠ [48]) (h1 : ((Lib.trimPrefix l [45]).headD 0).toNat = 48) : wholeB l = false := by
  unfold wholeB; simp only [h1, h]; simp
theorem wholeB_else {l : List UInt8} (h : l ≠ [48]) (h0 : Lib.trimPrefix l [45] ≠ []) (h1 : ((Lib.trimPrefix l [45]).headD 0).toNat ≠ 48) : wholeB l = inR 48 57 (Lib.trimPrefix l [45]) := by
  unfold wholeB; rw [decide_eq_false h, decide_eq_true h0, decide_eq_true h1]; simp
theorem toList_beq (s : ByteArray) (x : List UInt8) : (s.toList == x) = decide (s.data.toList = x) := by rw [toL]; exact Bool.eq_iff_iff.2 (by simp)

theorem trim_le (l p : List UInt8) : (Lib.trimPrefix l p).length ≤ l.length := by
  unfold Lib.trimPrefix; split <;> simp

set_option maxHeartbeats 400000 in
theorem whole_any (s : ByteArray) (w : World) (hs : s.size ≤ maxLen) :
    Calls Tryd.prog 47 #[.string s] w fun e w' => e = .returned (.bool (wholeB s.data.toList)) ∧ w = w' := by
  by_cases h0 : s.data.toList = [48]
  · have hf := Lib.hid (wholeB_zero h0)
    have hb : (s.toList == [48]) = true := by rw [toList_beq]; simp [h0]
    clear h0
    go_enter Tryd.func47, Tryd.ntmps47
    go_wp2_with fail
    go_ret
    exact ⟨ret_bool hf.out.symm, rfl⟩
  have hb : (s.toList == [48]) = false := by rw [toList_beq]; simp [h0]
  obtain ⟨d, hd⟩ : ∃ d : ByteArray, d = ⟨(Lib.trimPrefix s.data.toList [45]).toArray⟩ := ⟨_, rfl⟩
  have hdl : Lib.trimPrefix s.data.toList [45] = d.data.toList := by rw [hd]
  have hds : d.size ≤ maxLen := by
    have h1 := trim_le s.data.toList [45]
    rw [hdl, len_eq, len_eq] at h1; omega
  have hc : ∀ w : World, Calls Tryd.prog 69 #[.string s, .string ⟨#[45]⟩] w fun e w' => e = .returned (.string d) ∧ w' = w := by
    intro w; rw [hd]; exact Tryd.strings_TrimPrefix s ⟨#[45]⟩ w
  have Hc := Lib.hid hc
  clear hc hd
  by_cases h1 : d.size = 0
  · have e1 := empty_yes d h1
    have e2 := isEmpty_yes d h1
    have hf := Lib.hid (wholeB_empty h0 (by rw [hdl]; rw [← toL]; exact e1))
    clear hdl h0 h1
    go_enter Tryd.func47, Tryd.ntmps47
    go_wp2_with (first
      | (go_at_call 69; refine (Hc.out _).mono ?_; rintro e w' ⟨rfl, rfl⟩))
    go_ret
    exact ⟨ret_bool hf.out.symm, rfl⟩
  have hpos : 0 < d.size := by omega
  have e1 := empty_no d hpos
  have e2 := isEmpty_no d hpos
  by_cases h2 : (d[0].toNat : Int) = 48
  · have hf := Lib.hid (wholeB_lead h0 (by rw [hdl, head_eq d hpos]; omega))
    have e3 : ((d[0].toNat : Int) == 48) = true := by simp [h2]
    have e4 : ((d[0].toNat : Int) != 48) = false := by simp [h2]
    clear hdl h0 h1 h2
    go_enter Tryd.func47, Tryd.ntmps47
    go_wp2_with (first
      | (go_at_call 69; refine (Hc.out _).mono ?_; rintro e w' ⟨rfl, rfl⟩))
    go_ret
    exact ⟨ret_bool hf.out.symm, rfl⟩
  · have hf := Lib.hid (wholeB_else h0 (by rw [hdl, ← toL]; exact e1) (by rw [hdl, head_eq d hpos]; omega))
    have Hd := Lib.hid hdl
    have e3 : ((d[0].toNat : Int) == 48) = false := by simp [h2]
    have e4 : ((d[0].toNat : Int) != 48) = true := by simp [h2]
    clear hdl h0 h1 h2
    go_enter Tryd.func47, Tryd.ntmps47
    go_wp2_with (first
      | (go_at_call 69; refine (Hc.out _).mono ?_; rintro e w' ⟨rfl, rfl⟩)
      | (go_at_call 46; refine (within_any d _ _ _ hds).mono ?_; rintro e w' ⟨rfl, rfl⟩))
    go_ret
    exact ⟨ret_bool (by rw [hf.out, Hd.out]), rfl⟩

end Go.Proofs.YtdncfignegagjaaDoor
