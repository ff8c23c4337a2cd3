import Derived.Test.YtdncfignegagjaaDoorL2
namespace Go.Proofs.YtdncfignegagjaaDoor
open Go.RowKit

def RlRel (s : ByteArray) (w : World) (ov fv iv : Value) (wr : World) : Prop :=
  ∃ (pre : List (List UInt8)) (f k : Nat), f ≤ k ∧ k ≤ s.size ∧ fv = .int .i64 f ∧ iv = .int .i64 k ∧ cutL [] s.data.toList = pre ++ cutL (s.extract f k).data.toList (s.data.toList.drop k) ∧
    wr.ownsRow w.heap.size 9 1 ov pre.length (pre.map strV1) ∧ Below w.heap.size w wr
theorem ext_snoc (s : ByteArray) (f k : Nat) (h : f ≤ k) (hk : k < s.size) : (s.extract f (k + 1)).data.toList = (s.extract f k).data.toList ++ [s[k]] := by
  rw [Lib.extract_data, Lib.extract_data, show k + 1 - f = (k - f) + 1 by omega, List.take_add_one, List.getElem?_drop, show f + (k - f) = k by omega]
  have hk' : k < s.data.toList.length := by rw [len_eq]; exact hk
  rw [List.getElem?_eq_getElem hk']; rfl
theorem ext_nil (s : ByteArray) (k : Nat) : (s.extract k k).data.toList = [] := by rw [Lib.extract_data]; simp
theorem drop_at' (s : ByteArray) (k : Nat) (h : k < s.size) : s.data.toList.drop k = s[k] :: s.data.toList.drop (k + 1) := by
  have hk : k < s.data.toList.length := by simpa using h
  rw [List.drop_eq_getElem_cons hk]
  congr 1
theorem rl_hit {s : ByteArray} {pre : List (List UInt8)} {f k : Nat} (hk : k < s.size) (h : cutL [] s.data.toList = pre ++ cutL (s.extract f k).data.toList (s.data.toList.drop k)) (hc : s[k] = 10) :
    cutL [] s.data.toList = (pre ++ [(s.extract f k).data.toList]) ++ cutL (s.extract (k + 1) (k + 1)).data.toList (s.data.toList.drop (k + 1)) := by
  rw [h, drop_at' s k hk, cutL, if_pos hc, ext_nil]; simp
theorem rl_miss {s : ByteArray} {pre : List (List UInt8)} {f k : Nat} (hf : f ≤ k) (hk : k < s.size) (h : cutL [] s.data.toList = pre ++ cutL (s.extract f k).data.toList (s.data.toList.drop k)) (hc : s[k] ≠ 10) :
    cutL [] s.data.toList = pre ++ cutL (s.extract f (k + 1)).data.toList (s.data.toList.drop (k + 1)) := by
  rw [h, drop_at' s k hk, cutL, if_neg hc, ext_snoc s f k hf hk]
theorem u8_10 {c : UInt8} (h : (c.toNat : Int) = 10) : c = 10 := by
  apply UInt8.toNat_inj.1; show _ = 10; omega
theorem u8_n10 {c : UInt8} (h : ¬ (c.toNat : Int) = 10) : c ≠ 10 := fun e => h (by rw [e]; rfl)

set_option maxRecDepth 100000 in
set_option maxHeartbeats 1000000 in
theorem rlines_any (s : ByteArray) (w : World) (hs : s.size ≤ 2000000) :
    Calls Tryd.prog 41 #[.string s] w (LsPost w (linesW s.data.toList)) := by
  obtain ⟨i0, hi0, hz0, hz1, hz2⟩ := info_parts Tryd.infoS
  by_cases hbig : 1048576 < s.size
  · have hf := Lib.hid (show linesW s.data.toList = ([], 3) by rw [linesW, if_pos (by rw [len_eq]; exact hbig)])
    go_enter Tryd.func41, Tryd.ntmps41
    go_wp2_with fail
    go_ret2
    exact lsPost_err hf.out (Below.refl _ _)
  have hbl : ¬ 1048576 < s.data.toList.length := by rw [len_eq]; exact hbig
  by_cases hlast : 0 < s.size ∧ ¬ s.data.toList.getLast? = some 10
  · obtain ⟨hpos, hlast⟩ := hlast
    have hf := Lib.hid (show linesW s.data.toList = ([], 6) by
      rw [linesW, if_neg hbl, if_pos ⟨by rw [← toL]; exact empty_no s hpos, hlast⟩])
    have hpn : s.size - 1 < s.size := by omega
    rw [last_at s hpos] at hlast
    have q : ¬ (s[s.size - 1].toNat : Int) = 10 := fun e => hlast (by rw [Option.some.injEq]; exact u8_10 e)
    have q1 : ((s[s.size - 1].toNat : Int) == 10) = false := by simp [q]
    have q2 : ((s[s.size - 1].toNat : Int) != 10) = true := by simp [q]
    clear hlast q hbl
    go_enter Tryd.func41, Tryd.ntmps41
    go_wp2_with fail
    go_ret2
    exact lsPost_err hf.out (Below.refl _ _)
  have hgood : s.data.toList = [] ∨ s.data.toList.getLast? = some 10 := by
    by_cases h0 : s.size = 0
    · left; rw [← toL]; exact empty_yes s h0
    · right; exact Classical.byContradiction fun e => hlast ⟨by omega, e⟩
  have hgg : ¬ (s.data.toList ≠ [] ∧ s.data.toList.getLast? ≠ some 10) := fun e => hgood.elim e.1 e.2
  have hl0 : linesW s.data.toList = if 5000 < (cutL [] s.data.toList).length then ([], 3) else (cutL [] s.data.toList, 0) := by
    rw [linesW, if_neg hbl, if_neg hgg]
  have hle : (cutL [] s.data.toList).length ≤ s.size := by
    rw [cutL_count]; unfold Lib.countByte; exact Nat.le_trans List.count_le_length (by rw [len_eq]; exact Nat.le_refl _)
  have HG := Lib.hid hgood
  have HL := Lib.hid hl0
  have HLE := Lib.hid hle
  clear hgood hgg hl0 hbl hle hlast
  by_cases h0 : s.size = 0
  all_goals
    first
      | (have hd0 : ¬ 0 < s.size := by omega)
      | (have hpos : 0 < s.size := by omega
         have e1 := empty_no s hpos
         have hpn : s.size - 1 < s.size := by omega
         have hq := HG.out.resolve_left (by rw [← toL]; exact e1)
         rw [last_at s hpos, Option.some.injEq] at hq
         have q : (s[s.size - 1].toNat : Int) = 10 := by rw [hq]; rfl
         have q1 : ((s[s.size - 1].toNat : Int) == 10) = true := by simp [q]
         have q2 : ((s[s.size - 1].toNat : Int) != 10) = false := by simp [q]
         clear q hq e1)
  all_goals
    go_enter Tryd.func41, Tryd.ntmps41
    go_wp2_with fail
    go_loopw [4, 5, 6] (fun ov fv iv wr => RlRel s w ov fv iv wr) (fun _ _ iv _ => s.size - (intOf iv).toNat)
    case atStart => exact ⟨[], 0, 0, Nat.le_refl _, Nat.zero_le _, rfl, rfl, by rw [ext_nil]; rfl, World.ownsRow_nil _ _ _ _, Below.refl _ _⟩
    case round =>
      obtain ⟨pre, f, k, hfk, hk, rfl, rfl, hc, hown, hb⟩ := hrel
      have HC := Lib.hid hc
      clear hc
      by_cases hlt : k < s.size
      · first
          | (exfalso; omega)
          | (by_cases h10 : (s[k].toNat : Int) = 10
             · have p1 : ((s[k].toNat : Int) == 10) = true := by simp [h10]
               have hhit := rl_hit hlt HC.out (u8_10 h10)
               have HH := Lib.hid hhit
               have hpl : pre.length < (cutL [] s.data.toList).length := by rw [HH.out]; simp
               have hpl2 : pre.length < 1048576 := by have := HLE.out; omega
               have hbs := hb.size
               clear hhit h10 hpl
               go_wp2_with (at_builtin; refine wpList_append_own _ rfl _ _ 56 rfl w.heap.size 9 i0 (.string ⟨#[]⟩) 1 16 Tryd.underlying56 hi0 hz0 hz1 hz2 rfl (by decide) _ _ _ rfl (hown.alloc _) ⟨wr.heap.size, 0, none⟩ 1 1 [.string (s.extract f k)] rfl rfl (cell_one_new _ _ _) (by simp [Value.oneCell']) (by unfold maxLen; omega) (by omega) (by simp; omega) ?_; intro v' w3 hown3 hgrow _)
               go_roundw
               case rel =>
                 refine ⟨pre ++ [(s.extract f k).data.toList], k + 1, k + 1, Nat.le_refl _, by omega, by go_num, by go_num, HH.out, by rw [List.map_append, List.length_append]; exact hown3, ?_⟩
                 exact (hb.alloc hbs _).grown hgrow (by simp; omega) (own_ge hown)
               case measure => simp [intOf]; omega
             · have p1 : ((s[k].toNat : Int) == 10) = false := by simp [h10]
               have HH := Lib.hid (rl_miss hfk hlt HC.out (u8_n10 h10))
               clear h10
               go_wp2
               go_roundw
               case rel => exact ⟨pre, f, k + 1, by omega, by omega, rfl, by go_num, HH.out, hown, hb⟩
               case measure => simp [intOf]; omega)
      · obtain rfl : k = s.size := by omega
        have hpre : cutL [] s.data.toList = pre := by rw [HC.out, List.drop_eq_nil_of_le (by rw [len_eq]; exact Nat.le_refl _)]; simp [cutL]
        have HP := Lib.hid hpre
        clear hpre
        have hform : ∃ A cap, u4 = .slice A pre.length cap := by
          rcases hown.2 with ⟨rfl, h0⟩ | ⟨g, cap, cur, rfl, _⟩
          · exact ⟨none, 0, by rw [h0]⟩
          · exact ⟨_, cap, rfl⟩
        obtain ⟨A, cap, rfl⟩ := hform
        by_cases h5 : 5000 < pre.length
        · have hf := Lib.hid (show linesW s.data.toList = ([], 3) by rw [HL.out, HP.out, if_pos h5])
          go_wp2
          go_ret2
          exact lsPost_err hf.out hb
        · have hf := Lib.hid (show linesW s.data.toList = (pre, 0) by rw [HL.out, HP.out, if_neg h5])
          go_wp2
          go_ret2
          rw [hf.out]
          exact ⟨_, rfl, hown, hb⟩
end Go.Proofs.YtdncfignegagjaaDoor
