import Derived.Test.YtdncfignegagjaaDoorRS1
namespace Go.Proofs.YtdncfignegagjaaDoor
open Go.RowKit

/-! Where the reference's field ends. -/
def idx32 : List UInt8 → Nat
  | [] => 0
  | c :: r => if c = 32 then 0 else idx32 r + 1
def qend : List UInt8 → Nat
  | [] => 0
  | [_] => 1
  | c :: d :: r => if c = 34 then (if d = 34 then qend r + 2 else 1) else qend (d :: r) + 1
def endW : List UInt8 → Nat
  | [] => 0
  | c :: r => if c = 34 then qend r + 1 else idx32 (c :: r)
theorem drop_at (s : ByteArray) (k : Nat) (h : k < s.size) : s.data.toList.drop k = s[k] :: s.data.toList.drop (k + 1) := by
  have hk : k < s.data.toList.length := by simpa using h
  rw [List.drop_eq_getElem_cons hk]
  congr 1
theorem drop_end (s : ByteArray) (k : Nat) (h : s.size ≤ k) : s.data.toList.drop k = [] := List.drop_eq_nil_of_le (by rw [len_eq]; exact h)

set_option maxHeartbeats 1000000 in
theorem rend_any (s : ByteArray) (i : Nat) (w : World) (hs : s.size ≤ 1000000) (hi : i < s.size) :
    Calls Tryd.prog 60 #[.string s, .int .i64 i] w fun e w' => e = .returned (.int .i64 ((i + endW (s.data.toList.drop i) : Nat) : Int)) ∧ w = w' := by
  by_cases h34 : (s[i].toNat : Int) = 34
  · have q1 : ((s[i].toNat : Int) == 34) = true := by simp [h34]
    have hN : Hid (i + endW (s.data.toList.drop i) = (i + 1) + qend (s.data.toList.drop (i + 1))) := Lib.hid (by
      rw [drop_at s i hi, endW, if_pos (u8_34 h34)]; omega)
    clear h34
    go_enter Tryd.func60, Tryd.ntmps60
    go_wp2_with fail
    go_loop [6] (fun j => ∃ k : Nat, k ≤ s.size ∧ j = .int .i64 k ∧ i + endW (s.data.toList.drop i) = k + qend (s.data.toList.drop k)) (fun j => s.size - (intOf j).toNat)
    case atStart => exact ⟨i + 1, by omega, by go_num, hN.out⟩
    case round =>
      obtain ⟨k, hk, rfl, hr⟩ := hrel
      have Hr := Lib.hid hr
      clear hr
      by_cases hlt : k < s.size
      · by_cases hc : (s[k].toNat : Int) = 34
        · have p1 : ((s[k].toNat : Int) == 34) = true := by simp [hc]
          by_cases hlast : k + 1 = s.size
          · have p2 : (((k : Int) + 1) == (s.size : Int)) = true := beq_iff_eq.2 (by omega)
            have hf := Lib.hid (show i + endW (s.data.toList.drop i) = k + 1 by
              rw [Hr.out, drop_at s k hlt, drop_end s (k + 1) (by omega)]; rfl)
            clear hc hlast
            go_wp2
            go_ret
            exact ⟨ret_int (by have := hf.out; omega), rfl⟩
          · have p2 : (((k : Int) + 1) == (s.size : Int)) = false := beq_false_of_ne (by omega)
            have hk2 : k + 1 < s.size := by omega
            by_cases hd : (s[k + 1].toNat : Int) = 34
            · have p3 : ((s[k + 1].toNat : Int) == 34) = true := by simp [hd]
              have p4 : ((s[k + 1].toNat : Int) != 34) = false := by simp [hd]
              have hf := Lib.hid (show i + endW (s.data.toList.drop i) = (k + 2) + qend (s.data.toList.drop (k + 2)) by
                rw [Hr.out, drop_at s k hlt, drop_at s (k + 1) hk2, qend, if_pos (u8_34 hc), if_pos (u8_34 hd)]; show k + (qend (s.data.toList.drop (k + 2)) + 2) = _; omega)
              clear hc hlast hd
              go_wp2
              go_round
              case rel => exact ⟨k + 2, by omega, by go_num, hf.out⟩
              case measure => simp [intOf]; omega
            · have p3 : ((s[k + 1].toNat : Int) == 34) = false := by simp [hd]
              have p4 : ((s[k + 1].toNat : Int) != 34) = true := by simp [hd]
              have hf := Lib.hid (show i + endW (s.data.toList.drop i) = k + 1 by
                rw [Hr.out, drop_at s k hlt, drop_at s (k + 1) hk2, qend, if_pos (u8_34 hc), if_neg (u8_n34 hd)])
              clear hc hlast hd
              go_wp2
              go_ret
              exact ⟨ret_int (by have := hf.out; omega), rfl⟩
        · have p1 : ((s[k].toNat : Int) == 34) = false := by simp [hc]
          have hf := Lib.hid (show i + endW (s.data.toList.drop i) = (k + 1) + qend (s.data.toList.drop (k + 1)) by
            rw [Hr.out, drop_at s k hlt]
            by_cases hk2 : k + 1 < s.size
            · rw [drop_at s (k + 1) hk2, qend, if_neg (u8_n34 hc)]; omega
            · rw [drop_end s (k + 1) (by omega)]; rfl)
          clear hc
          go_wp2
          go_round
          case rel => exact ⟨k + 1, by omega, by go_num, hf.out⟩
          case measure => simp [intOf]; omega
      · have hf := Lib.hid (show i + endW (s.data.toList.drop i) = s.size by
          rw [Hr.out, drop_end s k (by omega)]; show k + 0 = _; omega)
        go_wp2
        go_ret
        exact ⟨ret_int (by have := hf.out; omega), rfl⟩
  · have q1 : ((s[i].toNat : Int) == 34) = false := by simp [h34]
    have hN : Hid (i + endW (s.data.toList.drop i) = i + idx32 (s.data.toList.drop i)) := Lib.hid (by
      rw [drop_at s i hi, endW, if_neg (u8_n34 h34)])
    clear h34
    go_enter Tryd.func60, Tryd.ntmps60
    go_wp2_with fail
    go_loop [6] (fun j => ∃ k : Nat, k ≤ s.size ∧ j = .int .i64 k ∧ i + endW (s.data.toList.drop i) = k + idx32 (s.data.toList.drop k)) (fun j => s.size - (intOf j).toNat)
    case atStart => exact ⟨i, by omega, by go_num, hN.out⟩
    case round =>
      obtain ⟨k, hk, rfl, hr⟩ := hrel
      have Hr := Lib.hid hr
      clear hr
      by_cases hlt : k < s.size
      · by_cases hc : (s[k].toNat : Int) = 32
        · have p1 : ((s[k].toNat : Int) == 32) = true := by simp [hc]
          have hf := Lib.hid (show i + endW (s.data.toList.drop i) = k by
            rw [Hr.out, drop_at s k hlt, idx32, if_pos (u8_32 hc)]; omega)
          clear hc
          go_wp2
          go_ret
          exact ⟨ret_int (by have := hf.out; omega), rfl⟩
        · have p1 : ((s[k].toNat : Int) == 32) = false := by simp [hc]
          have hf := Lib.hid (show i + endW (s.data.toList.drop i) = (k + 1) + idx32 (s.data.toList.drop (k + 1)) by
            rw [Hr.out, drop_at s k hlt, idx32, if_neg (u8_n32 hc)]; omega)
          clear hc
          go_wp2
          go_round
          case rel => exact ⟨k + 1, by omega, by go_num, hf.out⟩
          case measure => simp [intOf]; omega
      · have hf := Lib.hid (show i + endW (s.data.toList.drop i) = s.size by
          rw [Hr.out, drop_end s k (by omega)]; show k + 0 = _; omega)
        go_wp2
        go_ret
        exact ⟨ret_int (by have := hf.out; omega), rfl⟩
end Go.Proofs.YtdncfignegagjaaDoor
