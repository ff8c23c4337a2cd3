import Derived.Test.YtdncfignegagjaaDoorRS2
namespace Go.Proofs.YtdncfignegagjaaDoor
open Go.RowKit

def writeW (x : Fld) : List UInt8 × Int := if x.1 then quoteW x.2 else if bareB x.2 then (x.2, 0) else ([], 2)

set_option maxHeartbeats 1000000 in
theorem writeField_any (q : Bool) (s : ByteArray) (w : World) (hT : Tabs w) (hs : s.size ≤ maxLen) :
    Calls Tryd.prog 62 #[.agg #[.bool q, .string s]] w fun e w' => e = .returned (strV (writeW (q, s.data.toList))) ∧ Below w.heap.size w w' := by
  have hb0 : Below w.heap.size w (w.alloc (.cells #[.bool q, .string s] 53)) := (Below.refl _ _).alloc (Nat.le_refl _) _
  have HT := Lib.hid (hT.below hb0)
  clear hT
  cases q
  · cases h : bareB s.data.toList
    · have hf := Lib.hid (show writeW (false, s.data.toList) = ([], 2) by unfold writeW; simp [h])
      have H := Lib.hid h
      clear h
      go_enter Tryd.func62, Tryd.ntmps62
      go_wp2_with fail
      refine (bare_any s _ hs).mono ?_
      rintro e w' ⟨rfl, rfl⟩
      rw [H.out]
      go_wp2_with fail
      go_ret2
      exact ⟨ret_strV hf.out, hb0⟩
    · have hf := Lib.hid (show writeW (false, s.data.toList) = (s.data.toList, 0) by unfold writeW; simp [h])
      have H := Lib.hid h
      clear h
      go_enter Tryd.func62, Tryd.ntmps62
      go_wp2_with fail
      refine (bare_any s _ hs).mono ?_
      rintro e w' ⟨rfl, rfl⟩
      rw [H.out]
      go_wp2_with fail
      go_ret2
      exact ⟨ret_strV2 hf.out, hb0⟩
  · have hf := Lib.hid (show writeW (true, s.data.toList) = quoteW s.data.toList from rfl)
    have c := fun w hT => quote_any s w hT hs
    generalize quoteW s.data.toList = x at *
    obtain ⟨t, e⟩ := x
    simp only [strV] at c
    have C := Lib.hid c
    clear c
    go_enter Tryd.func62, Tryd.ntmps62
    go_wp2_with fail
    refine (C.out _ HT.out).mono ?_
    rintro e w' ⟨rfl, hb⟩
    go_wp2_with fail
    go_ret2
    exact ⟨ret_strV hf.out, hb0.trans (hb.mono hb0.size)⟩
end Go.Proofs.YtdncfignegagjaaDoor
