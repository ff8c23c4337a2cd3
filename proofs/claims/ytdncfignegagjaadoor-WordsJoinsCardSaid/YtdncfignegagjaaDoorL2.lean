import Derived.Test.YtdncfignegagjaaDoorL1
namespace Go.Proofs.YtdncfignegagjaaDoor
open Go.RowKit

def strV1 (l : List UInt8) : Value := .string ⟨l.toArray⟩
def LsPost (w : World) (x : List (List UInt8) × Int) (e : Ending) (w' : World) : Prop :=
  ∃ v, e = .returned (.tuple #[v, .int .i64 x.2]) ∧ w'.ownsRow w.heap.size 9 1 v x.1.length (x.1.map strV1) ∧ Below w.heap.size w w'
theorem Tryd.infoS : (Tryd.prog.info? 9).map (fun i => (i.zero, i.size, i.bytes)) = some (some (.string ⟨#[]⟩), 1, 16) := by kernel_rfl
theorem lsPost_err {w w' : World} {x : List (List UInt8) × Int} {e : Int} (h : x = ([], e)) (hb : Below w.heap.size w w') : LsPost w x (.returned (.tuple #[.slice none 0 0, .int .i64 e])) w' := by
  subst h; exact ⟨_, rfl, World.ownsRow_nil _ _ _ _, hb⟩
theorem last_at (s : ByteArray) (h : 0 < s.size) : s.data.toList.getLast? = some (s[s.size - 1]) := by
  rw [List.getLast?_eq_getElem?, len_eq]
  have hk : s.size - 1 < s.data.toList.length := by rw [len_eq]; omega
  rw [List.getElem?_eq_getElem hk]; rfl

def LnRel (L : List UInt8) (w : World) (sv lv : Value) (wr : World) : Prop :=
  ∃ (pre : List (List UInt8)) (r : ByteArray), sv = .string r ∧ cutL [] L = pre ++ cutL [] r.data.toList ∧ (r.data.toList = [] ∨ r.data.toList.getLast? = some 10) ∧ r.size ≤ 1048576 ∧
    wr.ownsRow w.heap.size 9 1 lv pre.length (pre.map strV1) ∧ Below w.heap.size w wr

theorem own_ge {w1 : World} {e : TypeId} {size n : Nat} {v : Value} {xs : List Value} {base : Nat} (h : w1.ownsRow base e size v n xs) : ∀ j, v.ownBlock = some j → base ≤ j := fun j hj => (h.lt j hj).1

set_option maxRecDepth 100000 in
set_option maxHeartbeats 1000000 in
theorem lines_any (s : ByteArray) (w : World) (hT : Tabs w) (hs : s.size ≤ 2000000) :
    Calls Tryd.prog 40 #[.string s] w (LsPost w (linesW s.data.toList)) := by
  obtain ⟨i0, hi0, hz0, hz1, hz2⟩ := info_parts Tryd.infoS
  by_cases hbig : 1048576 < s.size
  · have hf := Lib.hid (show linesW s.data.toList = ([], 3) by rw [linesW, if_pos (by rw [len_eq]; exact hbig)])
    go_enter Tryd.func40, Tryd.ntmps40
    go_wp2_with fail
    go_ret2
    exact lsPost_err hf.out (Below.refl _ _)
  have hbl : ¬ 1048576 < s.data.toList.length := by rw [len_eq]; exact hbig
  by_cases hlast : 0 < s.size ∧ ¬ s.data.toList.getLast? = some 10
  · obtain ⟨hpos, hlast⟩ := hlast
    have hf := Lib.hid (show linesW s.data.toList = ([], 6) by
      rw [linesW, if_neg hbl, if_pos ⟨by rw [← toL]; exact empty_no s hpos, hlast⟩])
    have hpn : s.size - 1 < s.size := by omega
    rw [last_at s hpos] at hlast
    have q : ¬ (s[s.size - 1].toNat : Int) = 10 := fun e => hlast (by rw [Option.some.injEq]; apply UInt8.toNat_inj.1; show _ = 10; omega)
    have q1 : ((s[s.size - 1].toNat : Int) == 10) = false := by simp [q]
    have q2 : ((s[s.size - 1].toNat : Int) != 10) = true := by simp [q]
    have e1 := empty_no s hpos
    have e2 := isEmpty_no s hpos
    clear hlast q hbl
    go_enter Tryd.func40, Tryd.ntmps40
    go_wp2_with fail
    go_ret2
    exact lsPost_err hf.out (Below.refl _ _)
  have hgood : s.data.toList = [] ∨ s.data.toList.getLast? = some 10 := by
    by_cases h0 : s.size = 0
    · left; rw [← toL]; exact empty_yes s h0
    · right; exact Classical.byContradiction fun e => hlast ⟨by omega, e⟩
  have hgg : ¬ (s.data.toList ≠ [] ∧ s.data.toList.getLast? ≠ some 10) := fun e => hgood.elim e.1 e.2
  have hcount := cutL_count s.data.toList []
  have hcc : ∀ w, Calls Tryd.prog 67 #[.string s, .string ⟨#[10]⟩] w fun e w' => e = .returned (.int .i64 (Lib.countByte s.data.toList 10)) ∧ w = w' := fun w => (Tryd.strings_Count_one s 10 w).mono fun _ _ h => ⟨h.1, h.2.symm⟩
  rw [← hcount] at hcc
  have hl0 : linesW s.data.toList = if 5000 < (cutL [] s.data.toList).length then ([], 3) else (cutL [] s.data.toList, 0) := by
    rw [linesW, if_neg hbl, if_neg hgg]
  have hle : (cutL [] s.data.toList).length ≤ s.size := by
    rw [hcount]; unfold Lib.countByte; exact Nat.le_trans List.count_le_length (by rw [len_eq]; exact Nat.le_refl _)
  have HG := Lib.hid hgood
  have HL := Lib.hid hl0
  have HCC := Lib.hid hcc
  clear hgood hgg hl0 hcc hcount hbl
  generalize hN : (cutL [] s.data.toList).length = N at *
  have HN := Lib.hid hN
  clear hN
  by_cases hN5 : 5000 < N
  · have hf := Lib.hid (show linesW s.data.toList = ([], 3) by rw [HL.out, if_pos hN5])
    have hpos : 0 < s.size := by omega
    have e1 := empty_no s hpos
    have e2 := isEmpty_no s hpos
    have hpn : s.size - 1 < s.size := by omega
    have hq := HG.out.resolve_left (by rw [← toL]; exact e1)
    rw [last_at s hpos, Option.some.injEq] at hq
    have q : (s[s.size - 1].toNat : Int) = 10 := by rw [hq]; rfl
    have q1 : ((s[s.size - 1].toNat : Int) == 10) = true := by simp [q]
    have q2 : ((s[s.size - 1].toNat : Int) != 10) = false := by simp [q]
    clear q hq hlast
    go_enter Tryd.func40, Tryd.ntmps40
    go_wp2_with (go_at_call 67; refine (HCC.out _).mono ?_; rintro e w' ⟨rfl, rfl⟩)
    go_ret2
    exact lsPost_err hf.out (Below.refl _ _)
  have hf := Lib.hid (show linesW s.data.toList = (cutL [] s.data.toList, 0) by rw [HL.out, if_neg hN5])
  have HT := Lib.hid hT
  clear hT hlast
  have hcut : ∀ (r : ByteArray) (w : World), Tabs w → r.size ≤ 1048576 → r.data.toList.getLast? = some 10 → ∃ a b : ByteArray, cutL [] r.data.toList = a.data.toList :: cutL [] b.data.toList ∧
      (b.data.toList = [] ∨ b.data.toList.getLast? = some 10) ∧ b.size < r.size ∧ a.size ≤ r.size ∧
      Calls Tryd.prog 68 #[.string r, .string ⟨#[10]⟩] w fun e w' => e = .returned (.tuple #[.string a, .string b, .bool true]) ∧ Below w.heap.size w w' := by
    intro r w hT hr hl
    obtain ⟨m, hm⟩ := hT.maxl
    obtain ⟨a, b, h1, h2, h3, h4, h5⟩ := cut_step hl
    refine ⟨⟨a.toArray⟩, ⟨b.toArray⟩, by simpa using h2, by simpa using h3, by rw [← len_eq, ← len_eq]; simpa using h4, by rw [← len_eq, ← len_eq]; simpa using h5, ?_⟩
    have h := Tryd.strings_Cut r ⟨#[10]⟩ m w (by omega) hm
    have e : Lib.cut r.data.toList (⟨#[10]⟩ : ByteArray).data.toList = (a, b, true) := h1
    rw [e] at h
    refine h.mono ?_
    rintro e w' ⟨rfl, n, rfl⟩
    exact ⟨rfl, below_drewN _ _⟩
  have HC := Lib.hid hcut
  clear hcut
  have hfin : ∀ (wr : World) (lv : Value) (pre : List (List UInt8)), cutL [] s.data.toList = pre → wr.ownsRow w.heap.size 9 1 lv pre.length (pre.map strV1) → Below w.heap.size w wr →
      LsPost w (linesW s.data.toList) (.returned (.tuple #[lv, .int .i64 0])) wr := by
    intro wr lv pre h1 h2 h3
    rw [hf.out, h1]
    exact ⟨lv, rfl, h2, h3⟩
  have HFin := Lib.hid hfin
  clear hfin
  by_cases h0 : s.size = 0
  all_goals
    first
      | (have e1 := empty_yes s h0
         have e2 := isEmpty_yes s h0)
      | (have hpos : 0 < s.size := by omega
         have e1 := empty_no s hpos
         have e2 := isEmpty_no s hpos
         have hpn : s.size - 1 < s.size := by omega
         have hq := HG.out.resolve_left (by rw [← toL]; exact e1)
         rw [last_at s hpos, Option.some.injEq] at hq
         have q : (s[s.size - 1].toNat : Int) = 10 := by rw [hq]; rfl
         have q1 : ((s[s.size - 1].toNat : Int) == 10) = true := by simp [q]
         have q2 : ((s[s.size - 1].toNat : Int) != 10) = false := by simp [q]
         clear q hq)
  all_goals
    go_enter Tryd.func40, Tryd.ntmps40
    go_wp2_with (go_at_call 67; refine (HCC.out _).mono ?_; rintro e w' ⟨rfl, rfl⟩)
    go_loopw [0, 4] (fun sv lv wr => LnRel s.data.toList w sv lv wr) (fun sv _ _ => strLen sv)
    case atStart => exact ⟨[], s, rfl, rfl, HG.out, by omega, World.ownsRow_nil _ _ _ _, Below.refl _ _⟩
    case round =>
      obtain ⟨pre, r, rfl, hc, hr, hrs, hown, hb⟩ := hrel
      have HCC := Lib.hid hc
      have HR := Lib.hid hr
      clear hc hr e1 e2
      by_cases hr0 : r.size = 0
      · have e1 := empty_yes r hr0
        have e2 := isEmpty_yes r hr0
        have hpre : cutL [] s.data.toList = pre := by rw [HCC.out, ← toL, e1]; simp [cutL]
        have HP := Lib.hid hpre
        clear hpre
        go_wp2
        go_ret2
        exact HFin.out _ _ _ HP.out hown hb
      · have e1 := empty_no r (by omega)
        have e2 := isEmpty_no r (by omega)
        have ht := HT.out.below hb
        obtain ⟨a, b, hab, hbg, hbl, hal, hcall⟩ := HC.out r wr ht hrs (HR.out.resolve_left (by rw [← toL]; exact e1))
        have HAB := Lib.hid hab
        have HBG := Lib.hid hbg
        have HCALL := Lib.hid hcall
        have hpl : pre.length < (cutL [] s.data.toList).length := by rw [HCC.out, HAB.out]; simp
        rw [HN.out] at hpl
        have hbs := hb.size
        clear hab hbg hcall
        first
          | (exfalso; omega)
          | (go_wp2_with (first
               | (go_at_call 68; refine HCALL.out.mono ?_; rintro e w1 ⟨rfl, hb1⟩)
               | (go_at_call 58; refine (clone_any a _ (by omega)).mono ?_; rintro e w2 ⟨rfl, hb2⟩; have hb2 := hb1.trans (hb2.mono hb1.size); have hown2 := hown.kept (grownBy_of_below hb2) (by cases u4.ownBlock <;> simp))
               | (at_builtin; refine wpList_append_own _ rfl _ _ 56 rfl w.heap.size 9 i0 (.string ⟨#[]⟩) 1 16 Tryd.underlying56 hi0 hz0 hz1 hz2 rfl (by decide) _ _ _ rfl (hown2.alloc _) ⟨w2.heap.size, 0, none⟩ 1 1 [.string a] rfl rfl (cell_one_new _ _ _) (by simp [Value.oneCell']) (by unfold maxLen; omega) (by omega) (by have := hb2.size; simp; omega) ?_; intro v' w3 hown3 hgrow _))
             go_roundw
             case rel =>
               refine ⟨pre ++ [a.data.toList], b, rfl, ?_, HBG.out, by omega, ?_, ?_⟩
               · rw [HCC.out, HAB.out]; simp
               · simpa [strV1] using hown3
               · have hbb := hb.trans (hb2.mono hbs)
                 exact (hbb.alloc hbb.size _).grown hgrow (by have := hbb.size; simp; omega) (own_ge hown2)
             case measure => simp [strLen]; omega)
end Go.Proofs.YtdncfignegagjaaDoor
