import Derived.Test.YtlababdfdjjjaaaGreatDoorG0
import Derived.Test.YtlababdfdjjjaaaGreatDoorPA
import Derived.Laws.CopyOwn
import Derived.Laws.MakeOwn
namespace Go.Proofs.YtlababdfdjjjaaaGreatDoor
open Go.RowKit

def u32 (x : Nat) : Value := .int .u32 (x : Int)
/-- v holds these limbs. -/
def Lim (w : World) (B : Nat) (v : Value) (l : List Nat) : Prop := SlC w B v (l.map u32) ∧ okL l
/-- v holds this number, with no zero limb at the end. -/
def Num (w : World) (B : Nat) (v : Value) (n : Nat) : Prop := Lim w B v (dg n)
theorem Lim.below {w w' : World} {B : Nat} {v : Value} {l : List Nat} (h : Lim w B v l) (hb : Below B w w') : Lim w' B v l := ⟨h.1.below hb, h.2⟩
theorem Lim.more {w : World} {B B' : Nat} {v : Value} {l : List Nat} (h : Lim w B v l) (hB : B ≤ B') : Lim w B' v l := ⟨h.1.more hB, h.2⟩
theorem Lim.up {w w' : World} {v : Value} {l : List Nat} (h : Lim w w.heap.size v l) (hb : Below w.heap.size w w') : Lim w' w'.heap.size v l := ⟨h.1.up hb, h.2⟩
theorem Lim.form {w : World} {B : Nat} {v : Value} {l : List Nat} (h : Lim w B v l) : ∃ A cap, v = .slice A l.length cap ∧ l.length ≤ cap := by
  have := h.1.form; simpa using this
theorem Lim.cell {w : World} {B : Nat} {A : Option Addr} {n cap : Nat} {l : List Nat} (h : Lim w B (.slice A n cap) l) {k x : Nat} (hx : l[k]? = some x) :
    ∃ g o, A = some ⟨g, o, none⟩ ∧ g < B ∧ w.cell? ⟨g, o + k, none⟩ = some (.int .u32 (x : Int)) := h.1.cell (x := u32 x) (by rw [List.getElem?_map, hx]; rfl)
theorem Lim.lt {l : List Nat} (h : okL l) {k x : Nat} (hx : l[k]? = some x) : x < 4294967296 := h x (List.mem_of_getElem? hx)
theorem Lim.take {w : World} {B : Nat} {A : Option Addr} {n cap : Nat} {l : List Nat} (h : Lim w B (.slice A n cap) l) (k : Nat) (hk : k ≤ n) : Lim w B (.slice A k cap) (l.take k) :=
  ⟨by rw [List.map_take]; exact h.1.take k hk, okL_take h.2 k⟩
theorem Lim.nil (w : World) (B c : Nat) (A : Option Addr) : Lim w B (.slice A 0 c) [] := ⟨SlC.nil w B c A, okL_nil⟩
theorem Num.zero (w : World) (B : Nat) : Num w B (.slice none 0 0) 0 := by unfold Num; rw [dg_zero]; exact Lim.nil _ _ _ _

theorem trim_dg_end {l : List Nat} {k : Nat} (ho : okL l) (hv : val (l.take k) = val l) (h : k = 0 ∨ ∃ x, l[k - 1]? = some x ∧ x ≠ 0) : l.take k = dg (val l) := by
  rcases h with rfl | ⟨x, hx, h0⟩
  · exact trim_end hv
  · by_cases hk : k = 0
    · subst hk; exact trim_end hv
    · obtain ⟨j, rfl⟩ : ∃ j, k = j + 1 := ⟨k - 1, by omega⟩
      have hj : j < l.length := (List.getElem?_eq_some_iff.1 (by simpa using hx)).1
      exact trim_stop ho hj (by simpa using hx) h0 hv

set_option maxHeartbeats 1000000 in
theorem trim_any (v : Value) (l : List Nat) (w : World) (hv : Lim w w.heap.size v l) (hlen : l.length ≤ 1000000000) :
    Calls Tryz.prog 75 #[v] w fun e w' => ∃ v', e = .returned v' ∧ Num w w.heap.size v' (val l) ∧ w = w' := by
  obtain ⟨A, cap, rfl, hcap⟩ := hv.form
  have HV := Lib.hid hv
  clear hv
  go_enter Tryz.func75, Tryz.ntmps75
  go_wp2
  go_loop [3] (fun n => ∃ k : Nat, k ≤ l.length ∧ n = .int .i64 k ∧ val (l.take k) = val l) (fun n => (intOf n).toNat)
  case atStart => exact ⟨l.length, Nat.le_refl _, rfl, by rw [List.take_length]⟩
  case round =>
    obtain ⟨k, hk, rfl, hr⟩ := hrel
    have HR := Lib.hid hr
    clear hr
    by_cases hk0 : 0 < k
    · obtain ⟨x, hx⟩ : ∃ x, l[k - 1]? = some x := ⟨l[k - 1]'(by omega), List.getElem?_eq_getElem (by omega)⟩
      obtain ⟨g, o, rfl, hg, c0⟩ := HV.out.cell hx
      obtain ⟨j, rfl⟩ : ∃ j, k = j + 1 := ⟨k - 1, by omega⟩
      simp only [Nat.add_sub_cancel] at hx c0
      have HX := Lib.hid hx
      clear hx
      by_cases hx0 : x = 0
      · subst hx0
        go_wp2
        go_round
        case rel => exact ⟨j, by omega, by go_num, trim_step HX.out HR.out⟩
        case measure => simp [intOf]
      · have q1 : ((x : Int) == 0) = false := by simp [hx0]
        go_wp2
        go_ret
        refine ⟨_, rfl, ?_, rfl⟩
        have := HV.out.take (j + 1) hk
        rw [trim_dg_end HV.out.2 HR.out (.inr ⟨x, by simpa using HX.out, hx0⟩)] at this
        exact this
    · obtain rfl : k = 0 := by omega
      go_wp2
      go_ret
      refine ⟨_, rfl, ?_, rfl⟩
      have := HV.out.take 0 hk
      rw [trim_dg_end HV.out.2 HR.out (.inl rfl)] at this
      exact this
end Go.Proofs.YtlababdfdjjjaaaGreatDoor
namespace Go.Proofs.YtlababdfdjjjaaaGreatDoor
open Go.RowKit

theorem Tryz.infoU : (Tryz.prog.info? 64).map (fun i => (i.zero, i.size, i.bytes)) = some (some (.int .u32 0), 1, 4) := by kernel_rfl
theorem Tryz.sizeU : (Tryz.prog.info? 64).map (·.size) = some 1 := by kernel_rfl
def zeros (n : Nat) : List Value := (List.replicate n 0).map u32
theorem zeros_len (n : Nat) : (zeros n).length = n := by simp [zeros]
theorem mkU (n : Nat) (hn : n ≤ 10000000000) (w : World) :
    (Instr.makeSlice 24 (.int .i64 (n : Int)) (.int .i64 (n : Int))).run Tryz.prog w = .ok (.slice (some ⟨w.heap.size, 0, none⟩) n n) (w.alloc (.cells (zeros n).toArray 64)) := by
  obtain ⟨i0, hi, hz0, hz1, hz2⟩ := info_parts Tryz.infoU
  have h := run_make (P := Tryz.prog) w 24 64 i0 _ Tryz.underlying24 hi hz0 .i64 .i64 n n (by omega) (by omega) (by rw [hz2]; omega) (by omega)
  simp only [Int.toNat_natCast] at h
  rw [hz1, Nat.mul_one] at h
  have e : madeCells (Value.int .u32 0).cells n = (zeros n).toArray := by
    apply Array.toList_inj.1
    rw [show (Value.int .u32 0).cells = #[Value.int .u32 0] from rfl, toList_madeCells_one]
    simp [zeros, u32]
  rw [e] at h
  exact h

theorem mkI (x : Int) (n : Nat) (hx : x = (n : Int)) (hn : n ≤ 10000000000) (w : World) :
    (Instr.makeSlice 24 (.int .i64 x) (.int .i64 x)).run Tryz.prog w = .ok (.slice (some ⟨w.heap.size, 0, none⟩) n n) (w.alloc (.cells (zeros n).toArray 64)) := by
  subst hx; exact mkU n hn w

/-- Block g holds just these limbs. -/
def Row (w : World) (g : Nat) (L : List Nat) : Prop := w.heap[g]? = some (.cells (L.map u32).toArray 64 (0, 0))
theorem Row.cell {w : World} {g : Nat} {L : List Nat} (h : Row w g L) {i x : Nat} (hx : L[i]? = some x) : w.cell? ⟨g, i, none⟩ = some (.int .u32 (x : Int)) := by
  rw [Go.Joins.cell_of_block h i]; simp [hx, u32]
theorem Row.frozen {w : World} {g : Nat} {L : List Nat} (h : Row w g L) (i : Nat) : w.frozen? ⟨g, i, none⟩ = false := by
  have e : w.heap[g]? = some (.cells (L.map u32).toArray 64 (0, 0)) := h
  simp [World.frozen?, e]
theorem Row.lt {w : World} {g : Nat} {L : List Nat} (h : Row w g L) : g < w.heap.size := (Array.getElem?_eq_some_iff.1 h).1
theorem Row.new (w : World) (n : Nat) : Row (w.alloc (.cells (zeros n).toArray 64)) w.heap.size (List.replicate n 0) := heap_alloc_new w _
theorem Row.set {w : World} {g : Nat} {L : List Nat} (h : Row w g L) (i x : Nat) : Row (w.setCell ⟨g, i, none⟩ (.int .u32 (x : Int))) g (L.set i x) := by
  have e : w.heap[g]? = some (.cells (L.map u32).toArray 64 (0, 0)) := h
  show (w.setCell _ _).heap[g]? = _
  rw [List.map_set]
  simp [World.setCell, Array.getElem?_modify, e, u32]
theorem Row.below {w w' : World} {B g : Nat} {L : List Nat} (h : Row w g L) (hb : Below B w w') (hg : g < B) : Row w' g L := (hb.block g hg).trans h
theorem Row.up {w w' : World} {g : Nat} {L : List Nat} (h : Row w g L) (hb : Below w.heap.size w w') : Row w' g L := h.below hb h.lt
theorem Row.drewN {w : World} {g : Nat} {L : List Nat} (h : Row w g L) (n : Nat) : Row (w.drewN n) g L := h
theorem Row.alloc {w : World} {g : Nat} {L : List Nat} (h : Row w g L) (o : Obj) : Row (w.alloc o) g L := h.up ((Below.refl _ _).alloc (Nat.le_refl _) o)
/-- A part of the row as limbs. -/
theorem Row.part {w : World} {g : Nat} {L : List Nat} (h : Row w g L) (ho : okL L) (o n cap : Nat) (hn : o + n ≤ L.length) (hc : n ≤ cap) : Lim w w.heap.size (.slice (some ⟨g, o, none⟩) n cap) ((L.drop o).take n) := by
  have hl : ((L.drop o).take n).length = n := by rw [List.length_take, List.length_drop]; omega
  refine ⟨⟨_, cap, by rw [List.length_map, hl], by rw [List.length_map, hl]; exact hc, fun _ => ⟨g, o, rfl, h.lt, ?_⟩⟩, okL_take (okL_drop ho o) n⟩
  intro k x hx
  rw [List.getElem?_map] at hx
  obtain ⟨y, hy, rfl⟩ := Option.map_eq_some_iff.1 hx
  rw [List.getElem?_take] at hy
  split at hy
  · rw [List.getElem?_drop] at hy
    exact h.cell hy
  · cases hy
theorem Row.whole {w : World} {g : Nat} {L : List Nat} (h : Row w g L) (ho : okL L) (cap : Nat) (hc : L.length ≤ cap) : Lim w w.heap.size (.slice (some ⟨g, 0, none⟩) L.length cap) L := by
  have := h.part ho 0 L.length cap (by omega) hc
  simpa using this
theorem add_of (g o j : Nat) : (⟨g, o, none⟩ : Addr).add j = ⟨g, o + j, none⟩ := by
  unfold Addr.add; by_cases h : j = 0 <;> simp [h]
/-- What copy asks of its source. -/
theorem SlC.src {w : World} {B : Nat} {A : Option Addr} {n cap : Nat} {cs : List Value} (h : SlC w B (.slice A n cap) cs) (h0 : 0 < cs.length) : ∃ ad, A = some ad ∧ ∀ j v, cs[j]? = some v → w.cell? (ad.add j) = some v := by
  obtain ⟨A', cap', e, hc, h⟩ := h
  cases e
  obtain ⟨g, o, rfl, hg, hh⟩ := h (by rintro rfl; simp at h0)
  exact ⟨_, rfl, fun j v hv => by rw [add_of]; exact hh j v hv⟩
theorem one_u32 (l : List Nat) : ∀ v ∈ l.map u32, v.oneCell' = true := by
  intro v hv
  obtain ⟨x, _, rfl⟩ := List.mem_map.1 hv
  rfl
theorem splice_map (f : Nat → Value) (L : List Nat) (o : Nat) (cs : List Nat) : splice (L.map f) o (cs.map f) = (splice L o cs).map f := by
  simp [splice]
theorem splice_full (n : Nat) (l : List Nat) (h : l.length = n) : splice (List.replicate n 0) 0 l = l := by simp [splice, h]

/-- copy of limbs into a row of the call's own. -/
theorem copyU (w : World) (A : Option Addr) (g off dLen dCap sCap B : Nat) (L l : List Nat) (hr : Row w g L) (hs : Lim w B (.slice A l.length sCap) l) (hl : l.length ≤ dLen) (hfit : off + l.length ≤ L.length) :
    ∃ w', (Builtin.copy_ #[24, 24] 3 #[.slice (some ⟨g, off, none⟩) dLen dCap, .slice A l.length sCap]).run Tryz.prog w = .ok (.int .i64 (l.length : Int)) w' ∧
      Row w' g (splice L off l) ∧ w.grownBy w' (some g) ∧ w'.heap.size = w.heap.size := by
  by_cases h0 : l.length = 0
  · refine ⟨w, ?_, ?_, grownBy_refl _ _, rfl⟩
    · have h := run_copy_none (P := Tryz.prog) w 24 24 3 64 (some ⟨g, off, none⟩) A dLen dCap l.length sCap Tryz.underlying24 Tryz.sizeU (by rw [h0]; exact Nat.zero_min _)
      rw [h, h0]; rfl
    · have : l = [] := List.eq_nil_of_length_eq_zero h0
      subst this; simpa [splice] using hr
  · obtain ⟨ad, rfl, hsrc⟩ := SlC.src hs.1 (by simp; omega)
    have h := run_copy_row (P := Tryz.prog) w 24 24 3 64 g off dLen dCap ad l.length sCap (L.map u32).toArray 64 (l.map u32) Tryz.underlying24 Tryz.sizeU hr
      (by rw [List.length_map]; exact (Nat.min_eq_left hl).symm) hsrc (by simpa using hfit) (one_u32 l)
    have e : (((L.map u32).toArray).toList.take off ++ l.map u32 ++ ((L.map u32).toArray).toList.drop (off + (l.map u32).length)).toArray = ((splice L off l).map u32).toArray := by
      rw [← splice_map]; simp [splice]
    rw [e, List.length_map] at h
    exact ⟨_, h, setRow_heap w g _ _ 64 _ hr, ⟨rfl, rfl, rfl, by simp [World.setRow], fun k _ hne => setRow_other w g k _ (by rintro rfl; exact hne rfl)⟩, by simp [World.setRow]⟩

set_option maxRecDepth 100000 in
set_option maxHeartbeats 1000000 in
theorem clone_any (v : Value) (l : List Nat) (w : World) (hv : Lim w w.heap.size v l) (hlen : l.length ≤ 1000000000) :
    Calls Tryz.prog 127 #[v] w fun e w' => e = .returned (.slice (some ⟨w.heap.size, 0, none⟩) l.length l.length) ∧ Row w' w.heap.size l ∧ Below w.heap.size w w' := by
  obtain ⟨A, cap, rfl, hcap⟩ := hv.form
  have hmk := fun W => mkU l.length (by omega) W
  have hb0 : Below w.heap.size w (w.alloc (.cells (zeros l.length).toArray 64)) := (Below.refl _ _).alloc (Nat.le_refl _) _
  obtain ⟨w1, hcp, hr1, hg1, hz1⟩ := copyU (w.alloc (.cells (zeros l.length).toArray 64)) A w.heap.size 0 l.length l.length cap w.heap.size (List.replicate l.length 0) l (Row.new w _) (hv.below hb0) (Nat.le_refl _) (by simp)
  rw [splice_full _ _ rfl] at hr1
  have HR := Lib.hid hr1
  have HG := Lib.hid hg1
  clear hv hr1 hg1
  go_enter Tryz.func127, Tryz.ntmps127
  go_wp2
  go_ret
  exact ⟨rfl, HR.out, below_of_grown hb0 HG.out (Nat.le_refl _) (by simp)⟩
end Go.Proofs.YtlababdfdjjjaaaGreatDoor
