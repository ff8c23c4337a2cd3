import Derived.Test.YtdncfignegagjaaDoorW10
namespace Go.Proofs.YtdncfignegagjaaDoor
open Go.RowKit

abbrev Fld := Bool × List UInt8
def fldV (x : Fld) : Value := .agg #[.bool x.1, .string ⟨x.2.toArray⟩]
def readW (l : List UInt8) : Fld × Int :=
  if bareB l then ((false, l), 0) else if (unquoteW l).2 ≠ 0 then ((false, []), (unquoteW l).2) else ((true, (unquoteW l).1), 0)
def readV (x : Fld × Int) : Value := .tuple #[fldV x.1, .int .i64 x.2]
theorem readW_bare {l : List UInt8} (h : bareB l = true) : readW l = ((false, l), 0) := by simp [readW, h]
theorem readW_err {l t : List UInt8} {e : Int} (h : bareB l = false) (h1 : unquoteW l = (t, e)) (h2 : e ≠ 0) : readW l = ((false, []), e) := by simp [readW, h, h1, h2]
theorem readW_ok {l t : List UInt8} (h : bareB l = false) (h1 : unquoteW l = (t, 0)) : readW l = ((true, t), 0) := by simp [readW, h, h1]

theorem new2 {w w' : World} {a b : Value} {t : TypeId} (hb : Below (w.alloc (.cells #[a, b] t)).heap.size (w.alloc (.cells #[a, b] t)) w') :
    w'.cell? ⟨w.heap.size, 0, none⟩ = some a ∧ w'.cell? ⟨w.heap.size, 1, none⟩ = some b ∧ w'.frozen? ⟨w.heap.size, 0, none⟩ = false ∧ w'.frozen? ⟨w.heap.size, 1, none⟩ = false ∧ w.heap.size < w'.heap.size := by
  have c0 : (w.alloc (.cells #[a, b] t)).cell? ⟨w.heap.size, 0, none⟩ = some a := by simp
  have c1 : (w.alloc (.cells #[a, b] t)).cell? ⟨w.heap.size, 1, none⟩ = some b := by simp
  have f0 : (w.alloc (.cells #[a, b] t)).frozen? ⟨w.heap.size, 0, none⟩ = false := by simp [World.frozen?, World.alloc, -World.alloc_eq]
  have f1 : (w.alloc (.cells #[a, b] t)).frozen? ⟨w.heap.size, 1, none⟩ = false := by simp [World.frozen?, World.alloc, -World.alloc_eq]
  have hs := hb.size
  refine ⟨cell_later hb c0, cell_later hb c1, (hb.frozen (p := ⟨w.heap.size, 0, none⟩) (by simp)).trans f0, (hb.frozen (p := ⟨w.heap.size, 1, none⟩) (by simp)).trans f1, by simp at hs; omega⟩

set_option maxHeartbeats 1000000 in
theorem readField_any (s : ByteArray) (w : World) (hT : Tabs w) (hs : s.size ≤ 1000000) :
    Calls Tryd.prog 81 #[.string s] w fun e w' => e = .returned (readV (readW s.data.toList)) ∧ Below w.heap.size w w' := by
  have hsm : s.size ≤ maxLen := by unfold maxLen; omega
  have HT := Lib.hid hT
  cases h : bareB s.data.toList
  · have H := Lib.hid h
    have hq := fun w hT => unquote_any s w hT hs
    have hb0 : Below w.heap.size w (w.alloc (.cells #[.bool false, .string ⟨#[]⟩] 53)) := (Below.refl _ _).alloc (Nat.le_refl _) _
    have hT0 := HT.out.below hb0
    generalize hx : unquoteW s.data.toList = x at *
    obtain ⟨t, er⟩ := x
    simp only [strV] at hq
    have HQ := Lib.hid hq
    have HT0 := Lib.hid hT0
    by_cases her : er = 0
    · subst her
      have hf := Lib.hid (readW_ok h hx)
      clear h hx hq hT0 hT
      go_enter Tryd.func81, Tryd.ntmps81
      go_wp2_with fail
      refine (bare_any s _ hsm).mono ?_
      rintro e w' ⟨rfl, rfl⟩
      rw [H.out]
      go_wp2_with fail
      refine (HQ.out _ HT0.out).mono ?_
      rintro e w' ⟨rfl, hb⟩
      obtain ⟨c0, c1, f0, f1, hlt⟩ := new2 hb
      go_wp2_with fail
      refine bodyPost_ret (v := .tuple #[.agg #[.bool true, .string ⟨t.toArray⟩], .int .i64 0]) (by simp [results, Tryd.results81, c0, c1, go_sem]) rfl ⟨?_, ?_⟩
      · rw [hf.out]; rfl
      · exact ((hb0.trans (hb.mono hb0.size)).setCell (p := ⟨w.heap.size, 0, none⟩) (Nat.le_refl _) _).setCell (p := ⟨w.heap.size, 1, none⟩) (Nat.le_refl _) _
    · have hf := Lib.hid (readW_err h hx her)
      have q1 : (er == 0) = false := by simp [her]
      have q2 : (er != 0) = true := by simp [her]
      clear h hx hq hT0 hT her
      go_enter Tryd.func81, Tryd.ntmps81
      go_wp2_with fail
      refine (bare_any s _ hsm).mono ?_
      rintro e w' ⟨rfl, rfl⟩
      rw [H.out]
      go_wp2_with fail
      refine (HQ.out _ HT0.out).mono ?_
      rintro e w' ⟨rfl, hb⟩
      obtain ⟨c0, c1, f0, f1, hlt⟩ := new2 hb
      go_wp2_with fail
      refine bodyPost_ret (v := .tuple #[.agg #[.bool false, .string ⟨#[]⟩], .int .i64 er]) (by simp [results, Tryd.results81, c0, c1, go_sem]) rfl ⟨?_, ?_⟩
      · rw [hf.out]; rfl
      · exact ((hb0.trans (hb.mono hb0.size)).setCell (p := ⟨w.heap.size, 0, none⟩) (Nat.le_refl _) _).setCell (p := ⟨w.heap.size, 1, none⟩) (Nat.le_refl _) _
  · have H := Lib.hid h
    have hb0 : Below w.heap.size w (w.alloc (.cells #[.bool false, .string ⟨#[]⟩] 53)) := (Below.refl _ _).alloc (Nat.le_refl _) _
    have hf := Lib.hid (readW_bare h)
    clear h hT
    go_enter Tryd.func81, Tryd.ntmps81
    go_wp2_with fail
    refine (bare_any s _ hsm).mono ?_
    rintro e w' ⟨rfl, rfl⟩
    rw [H.out]
    go_wp2_with fail
    refine (clone_any s _ (by omega)).mono ?_
    rintro e w' ⟨rfl, hb⟩
    obtain ⟨c0, c1, f0, f1, hlt⟩ := new2 hb
    go_wp2_with fail
    refine bodyPost_ret (v := .tuple #[.agg #[.bool false, .string s], .int .i64 0]) (by simp [results, Tryd.results81, c0, c1, go_sem]) rfl ⟨?_, ?_⟩
    · rw [hf.out]; rfl
    · exact ((hb0.trans (hb.mono hb0.size)).setCell (p := ⟨w.heap.size, 0, none⟩) (Nat.le_refl _) _).setCell (p := ⟨w.heap.size, 1, none⟩) (Nat.le_refl _) _
end Go.Proofs.YtdncfignegagjaaDoor
