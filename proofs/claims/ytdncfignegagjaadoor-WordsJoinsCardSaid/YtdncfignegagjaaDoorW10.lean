import Derived.Test.YtdncfignegagjaaDoorW9
import Derived.OneCell
namespace Go.Proofs.YtdncfignegagjaaDoor
open Go.RowKit

def flipQ (q : Bool) (c : UInt8) : Bool := if c = 34 then !q else q
def cutIdx : Bool → List UInt8 → Option Nat
  | _, [] => none
  | q, c :: r => if c = 32 ∧ q = false then some 0 else (cutIdx (flipQ q c) r).map (· + 1)
def qAfter (l : List UInt8) : Bool := l.foldl flipQ false

/-- What is cut: before, after, found. -/
def cutW (l : List UInt8) : List UInt8 × List UInt8 × Bool :=
  match cutIdx false l with
  | some i => (l.take i, l.drop (i + 1), true)
  | none => (l, [], false)
def cutV (x : List UInt8 × List UInt8 × Bool) : Value := .tuple #[.string ⟨x.1.toArray⟩, .string ⟨x.2.1.toArray⟩, .bool x.2.2]

def CutRel (s : ByteArray) (w : World) (i : Value) (wr : World) : Prop :=
  ∃ (k : Nat) (q : Bool), k ≤ s.size ∧ i = .int .i64 k ∧ cutIdx false s.data.toList = (cutIdx q (s.data.toList.drop k)).map (· + k) ∧
    wr.heap[w.heap.size]? = some (.cells #[.bool q] 4 (0, 0)) ∧ Below w.heap.size w wr

theorem drop_eq (s : ByteArray) (k : Nat) (h : k < s.size) : s.data.toList.drop k = s[k] :: s.data.toList.drop (k + 1) := by
  rw [List.drop_eq_getElem_cons (by simpa using h)]; rfl
theorem cutIdx_step {q : Bool} (s : ByteArray) (k : Nat) (h : k < s.size) :
    cutIdx q (s.data.toList.drop k) = if s[k] = 32 ∧ q = false then some 0 else (cutIdx (flipQ q s[k]) (s.data.toList.drop (k + 1))).map (· + 1) := by
  rw [drop_eq s k h]; rfl
theorem cut_go {q q' : Bool} (s : ByteArray) (k : Nat) (h : k < s.size) (hc : cutIdx false s.data.toList = (cutIdx q (s.data.toList.drop k)).map (· + k))
    (hn : ¬ (s[k] = 32 ∧ q = false)) (hq : flipQ q s[k] = q') : cutIdx false s.data.toList = (cutIdx q' (s.data.toList.drop (k + 1))).map (· + (k + 1)) := by
  rw [hc, cutIdx_step s k h, if_neg hn, hq, Option.map_map]
  congr 1
  funext x
  simp; omega
theorem cut_hit {q : Bool} (s : ByteArray) (k : Nat) (h : k < s.size) (hc : cutIdx false s.data.toList = (cutIdx q (s.data.toList.drop k)).map (· + k))
    (hn : s[k] = 32 ∧ q = false) : cutW s.data.toList = (s.data.toList.take k, s.data.toList.drop (k + 1), true) := by
  have : cutIdx false s.data.toList = some k := by rw [hc, cutIdx_step s k h, if_pos hn]; simp
  rw [cutW, this]
theorem cut_end {q : Bool} (s : ByteArray) (k : Nat) (h : ¬ k < s.size) (hc : cutIdx false s.data.toList = (cutIdx q (s.data.toList.drop k)).map (· + k)) : cutW s.data.toList = (s.data.toList, [], false) := by
  have : cutIdx false s.data.toList = none := by rw [hc, List.drop_eq_nil_of_le (by rw [len_eq]; omega)]; rfl
  rw [cutW, this]
theorem u8_34 {c : UInt8} (h : (c.toNat : Int) = 34) : c = 34 := by
  apply UInt8.toNat_inj.1; have : (34 : UInt8).toNat = 34 := rfl; omega
theorem u8_32 {c : UInt8} (h : (c.toNat : Int) = 32) : c = 32 := by
  apply UInt8.toNat_inj.1; have : (32 : UInt8).toNat = 32 := rfl; omega
theorem u8_n34 {c : UInt8} (h : ¬ (c.toNat : Int) = 34) : c ≠ 34 := fun e => h (by rw [e]; rfl)
theorem u8_n32 {c : UInt8} (h : ¬ (c.toNat : Int) = 32) : c ≠ 32 := fun e => h (by rw [e]; rfl)
theorem ret_cutV {x : List UInt8 × List UInt8 × Bool} {a b : ByteArray} {f : Bool} (h : x = (a.data.toList, b.data.toList, f)) : Ending.returned (.tuple #[.string a, .string b, .bool f]) = .returned (cutV x) := by rw [h]; rfl

set_option maxHeartbeats 1000000 in
theorem cutField_any (s : ByteArray) (w : World) (hs : s.size ≤ maxLen) :
    Calls Tryd.prog 80 #[.string s] w fun e w' => e = .returned (cutV (cutW s.data.toList)) ∧ Below w.heap.size w w' := by
  unfold maxLen at hs
  go_enter Tryd.func80, Tryd.ntmps80
  go_wp2
  go_loopw [11] (fun i wr => CutRel s w i wr) (fun i _ => s.size - (intOf i).toNat)
  case atStart =>
    refine ⟨0, false, Nat.zero_le _, rfl, by simp, ?_, (Below.refl _ _).alloc (Nat.le_refl _) _⟩
    simp [World.alloc, -World.alloc_eq]
  case round =>
    obtain ⟨k, q, hk, rfl, hc, hB, hb⟩ := hrel
    have hcell := cell_of_one hB
    have hfree := free_of_one hB
    have HB := Lib.hid hB
    have HC := Lib.hid hc
    clear hB hc
    by_cases hlt : k < s.size
    · have hstep := Lib.hid (cutIdx_step (q := q) s k hlt)
      by_cases h34 : (s[k].toNat : Int) = 34
      · have q1 : ((s[k].toNat : Int) == 34) = true := by simp [h34]
        have q2 : ((s[k].toNat : Int) == 32) = false := by simp [h34]
        have H34 := Lib.hid h34
        clear h34
        go_wp2
        go_roundw
        case rel =>
          exact ⟨k + 1, !q, by omega, by go_num, cut_go s k hlt HC.out (fun e => by rw [u8_34 H34.out] at e; exact absurd e.1 (by decide)) (by rw [u8_34 H34.out]; rfl), one_setCell HB.out, hb.setCell (p := ⟨w.heap.size, 0, none⟩) (Nat.le_refl _) _⟩
        case measure => simp [intOf]; omega
      · have q1 : ((s[k].toNat : Int) == 34) = false := by simp [h34]
        have H34 := Lib.hid h34
        clear h34
        by_cases h32 : (s[k].toNat : Int) = 32
        · have q2 : ((s[k].toNat : Int) == 32) = true := by simp [h32]
          have H32 := Lib.hid h32
          clear h32
          cases q
          · go_wp2
            go_quiet (fail)
            go_wp2
            go_ret3
            exact ⟨ret_cutV (by rw [cut_hit s k hlt HC.out ⟨u8_32 H32.out, rfl⟩, Lib.extract_data, Lib.extract_to_end]; simp), hb.trans ((below_drewN _ _).mono hb.size)⟩
          · go_wp2
            go_roundw
            case rel =>
              exact ⟨k + 1, true, by omega, by go_num, cut_go s k hlt HC.out (by simp) (by rw [u8_32 H32.out]; rfl), HB.out, hb⟩
            case measure => simp [intOf]; omega
        · have q2 : ((s[k].toNat : Int) == 32) = false := by simp [h32]
          have H32 := Lib.hid h32
          clear h32
          go_wp2
          go_roundw
          case rel =>
            exact ⟨k + 1, q, by omega, by go_num, cut_go s k hlt HC.out (fun e => u8_n32 H32.out e.1) (by unfold flipQ; rw [if_neg (u8_n34 H34.out)]), HB.out, hb⟩
          case measure => simp [intOf]; omega
    · go_wp2
      go_ret3
      exact ⟨ret_cutV (cut_end s k hlt HC.out), hb⟩
end Go.Proofs.YtdncfignegagjaaDoor
