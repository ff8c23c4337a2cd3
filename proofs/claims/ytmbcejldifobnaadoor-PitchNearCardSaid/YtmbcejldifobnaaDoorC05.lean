import Derived.Test.YtmbcejldifobnaaDoorC04
import Derived.Test.YtmbcejldifobnaaDoorC01
import Derived.Deep.QuietTactic
import Derived.BigQuiet
namespace Go.Proofs.YtmbcejldifobnaaDoor
open Go.RowKit
def psI : List Int := [2, 3, 5, 7, 11, 13]
structure PrL (W : World) : Prop where
  cell : ∀ (i : Nat) (p : Int), psI[i]? = some p → W.cell? ⟨0, i, none⟩ = some (.int .i64 p)
  lt : 0 < W.heap.size
theorem PrL.below {W W' : World} (h : PrL W) (hb : Below W.heap.size W W') : PrL W' :=
  ⟨fun i p hp => (hb.cell (p := ⟨0, i, none⟩) h.lt).trans (h.cell i p hp), Nat.lt_of_lt_of_le h.lt hb.size⟩
theorem PrL.up {W W' : World} {B : Nat} (h : PrL W) (hB : W.heap.size ≤ B) (hb : Below B W W') : PrL W' := h.below (hb.mono hB)
theorem psI_nat (i : Nat) (p : Int) (h : psI[i]? = some p) : ∃ q : Nat, p = (q : Int) ∧ ps6[i]? = some q ∧ 2 ≤ q ∧ q ≤ 13 := by
  match i, h with
  | 0, h => cases h; exact ⟨2, rfl, rfl, by omega, by omega⟩
  | 1, h => cases h; exact ⟨3, rfl, rfl, by omega, by omega⟩
  | 2, h => cases h; exact ⟨5, rfl, rfl, by omega, by omega⟩
  | 3, h => cases h; exact ⟨7, rfl, rfl, by omega, by omega⟩
  | 4, h => cases h; exact ⟨11, rfl, rfl, by omega, by omega⟩
  | 5, h => cases h; exact ⟨13, rfl, rfl, by omega, by omega⟩
theorem nz_append (a b : List (Nat × Int)) : nz (a ++ b) = nz a ++ nz b := by unfold nz; rw [List.filter_append]
theorem zip_take {l : List Int} {i : Nat} {n : Int} {q : Nat} (hq : ps6[i]? = some q) (hn : l[i]? = some n) : ps6.zip (l.take (i + 1)) = ps6.zip (l.take i) ++ [(q, n)] := by
  have h1 : ∀ (ps : List Nat) (l : List Int) (i : Nat), ps[i]? = some q → l[i]? = some n → ps.zip (l.take (i + 1)) = ps.zip (l.take i) ++ [(q, n)] := by
    intro ps
    induction ps with
    | nil => intro l i h; simp at h
    | cons p ps ih =>
      intro l i h1 h2
      cases l with
      | nil => simp at h2
      | cons a l =>
        cases i with
        | zero => simp at h1 h2; subst h1 h2; simp
        | succ i =>
          have := ih l i (by simpa using h1) (by simpa using h2)
          simp only [List.take_succ_cons, List.zip_cons_cons, List.cons_append]
          rw [this]
  exact h1 _ _ _ hq hn
theorem nz_len (l : List (Nat × Int)) : (nz l).length ≤ l.length := List.length_filter_le _ _
def PoRel (w : World) (l : List Int) (v iv : Value) (wr : World) : Prop :=
  ∃ i : Nat, i ≤ 6 ∧ iv = .int .i64 (i : Int) ∧ RowT wr w.heap.size v (nz (ps6.zip (l.take i))) ∧ Below w.heap.size w wr
set_option maxRecDepth 100000 in
set_option maxHeartbeats 1000000 in
theorem powersOf_any (x0 x1 x2 x3 x4 x5 : Int) (w : World) (hp : PrL w) :
    Calls Tryd.prog 42 #[.agg #[.int .i64 x0, .int .i64 x1, .int .i64 x2, .int .i64 x3, .int .i64 x4, .int .i64 x5]] w fun e w' => ∃ v, e = .returned v ∧ RowT w' w.heap.size v (nz (V6.zl ⟨x0, x1, x2, x3, x4, x5⟩)) ∧ Below w.heap.size w w' := by
  have HP := Lib.hid hp
  clear hp
  go_enter Tryd.func42, Tryd.ntmps42
  go_wp2
  go_loopw [3, 7] (fun v iv wr => PoRel w [x0, x1, x2, x3, x4, x5] v iv wr) (fun _ iv _ => 6 - (intOf iv).toNat)
  case atStart => exact ⟨0, Nat.zero_le _, rfl, RowT.nil _ _, belA w _⟩
  case round =>
    obtain ⟨i, hi, rfl, hrow, hb⟩ := hrel
    by_cases hil : i < 6
    · obtain ⟨n, hn⟩ : ∃ n, [x0, x1, x2, x3, x4, x5][i]? = some n := ⟨[x0, x1, x2, x3, x4, x5][i], List.getElem?_eq_getElem _⟩
      have hix := idx6 x0 x1 x2 x3 x4 x5 i n hn
      have hilI : (i : Int) < 6 := by omega
      have hiI : (0 : Int) ≤ (i : Int) := by omega
      obtain ⟨p, hpi⟩ : ∃ p, psI[i]? = some p := ⟨psI[i]'(by simpa [psI] using hil), List.getElem?_eq_getElem _⟩
      obtain ⟨q, rfl, hq, hq2, hq3⟩ := psI_nat i p hpi
      have hpc := (HP.out.below hb).cell i _ hpi
      have hzt := zip_take hq hn
      have HZT := Lib.hid hzt
      have HROW := Lib.hid hrow
      have HB := Lib.hid hb
      have hle : (nz (ps6.zip ([x0, x1, x2, x3, x4, x5].take i))).length ≤ 6 := by
        refine Nat.le_trans (nz_len _) ?_
        rw [List.length_zip, List.length_take]
        have : ps6.length = 6 := rfl
        omega
      clear hpi hq hzt hrow hb hn
      by_cases h0 : n = 0
      · subst h0
        go_wp2
        refine ⟨⟨i + 1, by omega, by go_num, ?_, HB.out⟩, by simp [intOf]; omega⟩
        rw [HZT.out, nz_append]
        have : nz [(q, (0 : Int))] = [] := rfl
        rw [this, List.append_nil]
        exact HROW.out
      · have h0b : (n != 0) = true := by simp [h0]
        have HN0 := Lib.hid h0
        obtain ⟨bA, capA, rfl, hcA, hmA, hfA⟩ := HROW.out.form
        have HFA := Lib.hid hfA
        have hzs := HB.out.size
        clear hfA h0
        have hrow2 := HROW.out.up (belA wr (.cells #[.int .i64 (q : Int), .int .i64 n] 84))
        have HROW2 := Lib.hid hrow2
        clear hrow2
        go_wp2_with (at_builtin; refine append_any rfl (.tmp 13) (.tmp 19) rfl (l := nz (ps6.zip ([x0, x1, x2, x3, x4, x5].take i))) (r := [(q, n)]) rfl HROW2.out wr.heap.size 0 1 rfl (cells_one wr q n) (by simp; omega) (by simp; omega) ?_; intro v' w' hown' hgr' hat')
        refine ⟨⟨i + 1, by omega, by go_num, ?_, ?_⟩, by simp [intOf]; omega⟩
        · rw [HZT.out, nz_append]
          have : nz [(q, n)] = [(q, n)] := by unfold nz; rw [List.filter_cons, if_pos h0b]; rfl
          rw [this]
          exact hown'
        · refine (HB.out.alloc hzs _).grown hgr' (by simp; omega) (fun k hk => ?_)
          rcases HFA.out with ⟨rfl, -, -⟩ | ⟨g, rfl, hg, -, -⟩
          · cases hk
          · cases hk; exact hg
    · obtain rfl : i = 6 := by omega
      have HROW := Lib.hid hrow
      have HB := Lib.hid hb
      clear hrow hb
      go_wp2
      go_ret
      exact ⟨_, rfl, HROW.out, HB.out⟩
end Go.Proofs.YtmbcejldifobnaaDoor

namespace Go.Proofs.YtmbcejldifobnaaDoor.Pc
open Go.RowKit
theorem load_root2 {w : World} {g : Nat} {v : Value} {d : Int} (h0 : w.cell? ⟨g, 0, none⟩ = some v) (h1 : w.cell? ⟨g, 1, none⟩ = some (.int .i64 d)) : (loadVar 113 ⟨g, 0, none⟩).run Tryd.prog w = .ok (.agg #[v, .int .i64 d]) w :=
  run_loadVar_mid w g 0 113 [v, .int .i64 d] _ (fun j u hu => by
    match j, hu with
    | 0, hu => cases hu; exact h0
    | 1, hu => cases hu; exact h1) Tryd.underlying113 rfl (szRoot v d)
def negL (l : List (Nat × Int)) : List (Nat × Int) := l.map fun x => (x.1, -x.2)
theorem negL_take {l : List (Nat × Int)} {i n : Nat} {a : Int} (h : l[i]? = some (n, a)) : negL (l.take (i + 1)) = negL (l.take i) ++ [(n, -a)] := by
  unfold negL
  rw [List.take_add_one, h, List.map_append]
  rfl
theorem negL_len (l : List (Nat × Int)) : (negL l).length = l.length := by simp [negL]
def Bd (K : Int) (l : List (Nat × Int)) : Prop := ∀ x ∈ l, -K ≤ x.2 ∧ x.2 ≤ K
def IvRel (w : World) (A : Option Addr) (cap : Nat) (l : List (Nat × Int)) (d : Int) (tv iv : Value) (wr : World) : Prop :=
  ∃ i : Nat, i ≤ l.length ∧ iv = .int .i64 (i : Int) ∧ RowT wr (w.heap.size + 1 + 1) tv (negL (l.take i)) ∧ wr.heap[w.heap.size]? = some (.cells #[.slice A l.length cap, .int .i64 d] 113 (0, 0)) ∧ wr.heap[w.heap.size + 1]? = some (.cells #[.slice none 0 0, .int .i64 0] 113 (0, 0)) ∧ Below w.heap.size w wr
set_option maxRecDepth 100000 in
set_option maxHeartbeats 2000000 in
theorem inverse_any (A : Option Addr) (cap : Nat) (l : List (Nat × Int)) (d : Int) (w : World) (hv : TmC w w.heap.size (.slice A l.length cap) l) (hbd : Bd 1000000000000000 l) (hl : l.length ≤ 100) :
    Calls Tryd.prog 164 #[.agg #[.slice A l.length cap, .int .i64 d]] w fun e w' => (∃ V, e = .returned V ∧ RootV w' w.heap.size V (negL l) d) ∧ Below w.heap.size w w' := by
  have hh0 : ((w.alloc (.cells #[.slice A l.length cap, .int .i64 d] 113)).alloc (.cells #[.slice none 0 0, .int .i64 0] 113)).heap[w.heap.size]? = some (.cells #[.slice A l.length cap, .int .i64 d] 113 (0, 0)) := ((belA _ _).block _ (by simp)).trans (heap_alloc_new w _)
  have hh1 : ((w.alloc (.cells #[.slice A l.length cap, .int .i64 d] 113)).alloc (.cells #[.slice none 0 0, .int .i64 0] 113)).heap[w.heap.size + 1]? = some (.cells #[.slice none 0 0, .int .i64 0] 113 (0, 0)) := by
    have h := heap_alloc_new (w.alloc (.cells #[.slice A l.length cap, .int .i64 d] 113)) (.cells #[.slice none 0 0, .int .i64 0] 113)
    rw [World.size_alloc] at h
    exact h
  have hb0 := (belA w (.cells #[.slice A l.length cap, .int .i64 d] 113)).alloc (by simp) (.cells #[.slice none 0 0, .int .i64 0] 113)
  have HV := Lib.hid hv
  have HBD := Lib.hid hbd
  have H0 := Lib.hid hh0
  have H1 := Lib.hid hh1
  have HB := Lib.hid hb0
  have hlI : (l.length : Int) ≤ 100 := by omega
  clear hv hbd hh0 hh1 hb0
  go_enter Tryd.func164, Tryd.ntmps164
  go_wp2
  go_loopw [3, 9] (fun tv iv wr => IvRel w A cap l d tv iv wr) (fun _ iv _ => l.length - (intOf iv).toNat)
  case atStart => exact ⟨0, Nat.zero_le _, rfl, RowT.nil _ _, H0.out, H1.out, HB.out⟩
  case round =>
    clear H0 H1 HB
    obtain ⟨i, hi, rfl, hrow, h0, h1, hb⟩ := hrel
    have c0 : wr.cell? ⟨w.heap.size, 1, none⟩ = some (.int .i64 d) := Go.Joins.cell_of_block h0 1
    have H0 := Lib.hid h0
    have H1 := Lib.hid h1
    have HB := Lib.hid hb
    have HROW := Lib.hid hrow
    clear h0 h1 hb hrow
    have hzs := HB.out.size
    have h1lt : w.heap.size + 1 < wr.heap.size := (Array.getElem?_eq_some_iff.1 H1.out).1
    by_cases hil : i < l.length
    · obtain ⟨⟨n, a⟩, hx⟩ : ∃ x, l[i]? = some x := ⟨l[i], List.getElem?_eq_getElem _⟩
      obtain ⟨ha1, ha2⟩ := HBD.out _ (List.mem_of_getElem? hx)
      obtain ⟨A2, cap2, e2, -, hcell⟩ := HV.out
      cases e2
      obtain ⟨g, o, rfl, hg, hcc⟩ := hcell (by intro e; rw [e] at hil; exact Nat.not_lt_zero _ hil)
      obtain ⟨k1, k2⟩ := hcc i _ hx
      have c1 : wr.cell? ⟨g, o + i * 2, none⟩ = some (.int .i64 (n : Int)) := (HB.out.cell (p := ⟨g, _, none⟩) hg).trans k1
      have c2 : wr.cell? ⟨g, o + i * 2 + 1, none⟩ = some (.int .i64 a) := (HB.out.cell (p := ⟨g, _, none⟩) hg).trans k2
      have hilI : (i : Int) < (l.length : Int) := by omega
      have hiI : (0 : Int) ≤ (i : Int) := by omega
      simp only at ha1 ha2
      have wa : IntKind.i64.wrap (-a) = -a := IntWalk.i64_in _ (by omega)
      have hnl : (negL (l.take i)).length = i := by rw [negL_len, List.length_take]; omega
      obtain ⟨bA, capA, rfl, hcA, hmA, hfA⟩ := HROW.out.form
      have hrow2 := (HROW.out.up (belA wr (.cells #[.int .i64 (n : Int), .int .i64 a] 84))).up (belA (wr.alloc (.cells #[.int .i64 (n : Int), .int .i64 a] 84)) (.cells #[.int .i64 (n : Int), .int .i64 (-a)] 84))
      have hco := cells_one (wr.alloc (.cells #[.int .i64 (n : Int), .int .i64 a] 84)) n (-a)
      rw [World.size_alloc] at hco
      have HCO := Lib.hid hco
      have HROW2 := Lib.hid hrow2
      have HFA := Lib.hid hfA
      have HX := Lib.hid hx
      clear hrow2 hfA hx hcell hcc k1 k2 hco
      go_wp2_with (at_builtin; refine append_any rfl (.tmp 13) (.tmp 20) rfl (l := negL (l.take i)) (r := [(n, -a)]) rfl HROW2.out (wr.heap.size + 1) 0 1 rfl HCO.out (by simp; omega) (by simp; omega) ?_; intro v' w' hown' hgr' hat')
      have hne : ∀ k, k ≤ w.heap.size + 1 → ¬ (some k = Value.ownBlock (.slice bA (negL (l.take i)).length capA)) := fun k hk e => by
        rcases HFA.out with ⟨rfl, -, -⟩ | ⟨g2, rfl, hg2, -, -⟩
        · cases e
        · have e2 : k = g2 := Option.some.inj e
          omega
      have keep : ∀ k, k ≤ w.heap.size + 1 → w'.heap[k]? = wr.heap[k]? := fun k hk =>
        (hgr'.block k (by simp; omega) (hne k hk)).trans (((belA _ _).block k (by simp; omega)).trans ((belA _ _).block k (by omega)))
      refine ⟨⟨i + 1, by omega, by go_num, ?_, (keep _ (by omega)).trans H0.out, (keep _ (by omega)).trans H1.out, ?_⟩, by simp [intOf]; omega⟩
      · rw [negL_take HX.out]
        exact hown'
      · refine ((HB.out.alloc hzs _).alloc (by simp; omega) _).grown hgr' (by simp; omega) (fun k hk => ?_)
        rcases HFA.out with ⟨rfl, -, -⟩ | ⟨g2, rfl, hg2, -, -⟩
        · cases hk
        · have e2 : g2 = k := Option.some.inj hk
          omega
    · obtain rfl : i = l.length := by omega
      have hrow := HROW.out
      rw [List.take_length] at hrow
      obtain ⟨bA, capA, rfl, hcA, hmA, hfA⟩ := hrow.form
      have HROW := Lib.hid hrow
      have h1 := H1.out
      have c10 : wr.cell? ⟨w.heap.size + 1, 0, none⟩ = some (.slice none 0 0) := Go.Joins.cell_of_block h1 0
      have c11 : wr.cell? ⟨w.heap.size + 1, 1, none⟩ = some (.int .i64 0) := Go.Joins.cell_of_block h1 1
      have z10 : wr.frozen? ⟨w.heap.size + 1, 0, none⟩ = false := by unfold World.frozen?; simp only [h1]; rfl
      have z11 : wr.frozen? ⟨w.heap.size + 1, 1, none⟩ = false := by unfold World.frozen?; simp only [h1]; rfl
      clear hrow
      go_wp2
      refine bodyPost_ret (v := .agg #[.slice bA (negL l).length capA, .int .i64 d]) (results_one rfl rfl (load_root2 ?_ ?_)) rfl ⟨⟨_, rfl, _, rfl, RowT.low (B := w.heap.size + 1 + 1) (HROW.out.keep fun k hk => ?_) (by omega)⟩, (HB.out.setCell (by show w.heap.size ≤ w.heap.size + 1; omega) _).setCell (by show w.heap.size ≤ w.heap.size + 1; omega) _⟩
      · rw [World.cell?_setCell_other _ _ _ _ (by simp), World.cell?_setCell_same _ _ _ c10]
      · exact World.cell?_setCell_same _ _ _ ((World.cell?_setCell_other _ _ _ _ (by simp)).trans c11)
      · have hk2 : k ≠ w.heap.size + 1 := by
          rcases hfA with ⟨rfl, -, -⟩ | ⟨g2, rfl, hg2, -, -⟩
          · cases hk
          · have e2 : g2 = k := Option.some.inj hk
            omega
        exact (setCell_heap hk2).trans (setCell_heap hk2)
end Go.Proofs.YtmbcejldifobnaaDoor.Pc

namespace Go.Proofs.YtmbcejldifobnaaDoor.Wn
open Go.RowKit
theorem ret_bool {a b : Bool} (h : a = b) : Ending.returned (.bool a) = .returned (.bool b) := by rw [h]
def letterB (c : Int) : Bool := (decide (97 ≤ c) && decide (c ≤ 122)) || (decide (65 ≤ c) && decide (c ≤ 90))
def digitB (c : Int) : Bool := decide (48 ≤ c) && decide (c ≤ 57)

set_option maxHeartbeats 400000 in
theorem letter_any (c : Int) (w : World) :
    Calls Tryd.prog 185 #[.int .u8 c] w fun e w' => e = .returned (.bool (letterB c)) ∧ w = w' := by
  have hf := Lib.hid (show letterB c = ((decide (97 ≤ c) && decide (c ≤ 122)) || (decide (65 ≤ c) && decide (c ≤ 90))) from rfl)
  by_cases h1 : 97 ≤ c <;> by_cases h2 : c ≤ 122 <;> by_cases h3 : 65 ≤ c <;> by_cases h4 : c ≤ 90 <;> first | omega |
   (go_enter Tryd.func185, Tryd.ntmps185
    go_wp2
    go_ret
    exact ⟨ret_bool (by rw [hf.out]; simp [h1, h2, h3, h4]), rfl⟩)

set_option maxHeartbeats 400000 in
theorem digit_any (c : Int) (w : World) :
    Calls Tryd.prog 186 #[.int .u8 c] w fun e w' => e = .returned (.bool (digitB c)) ∧ w = w' := by
  have hf := Lib.hid (show digitB c = ((decide (48 ≤ c) && decide (c ≤ 57))) from rfl)
  by_cases h1 : 48 ≤ c <;> by_cases h2 : c ≤ 57 <;> first | omega |
   (go_enter Tryd.func186, Tryd.ntmps186
    go_wp2
    go_ret
    exact ⟨ret_bool (by rw [hf.out]; simp [h1, h2]), rfl⟩)



def nameC (c : UInt8) : Bool := letterB (c.toNat : Int) || digitB (c.toNat : Int) || decide ((c.toNat : Int) = 95)
def nameB (l : List UInt8) : Bool := decide (1 ≤ l.length) && decide (l.length ≤ 16) && letterB ((l.headD 0).toNat : Int) && l.all nameC

theorem head_eq (s : ByteArray) (h : 0 < s.size) : s.data.toList.headD 0 = s[0] := by
  have : s.data.toList ≠ [] := by
    intro e
    have h1 : s.data.toList.length = s.size := rfl
    rw [e] at h1; simp at h1; omega
  rw [List.headD_eq_head?_getD, List.head?_eq_getElem?, List.getElem?_eq_getElem (by simpa using h)]
  rfl
theorem len_eq (s : ByteArray) : s.data.toList.length = s.size := by simp
theorem all_take_succ (f : UInt8 → Bool) (s : ByteArray) (k : Nat) (h : k < s.size) (h1 : (s.data.toList.take k).all f = true)
   (h2 : f s[k] = true) : (s.data.toList.take (k+1)).all f = true := by
  rw [List.take_succ_eq_append_getElem (by simpa using h), List.all_append, h1]
  have : s.data.toList[k] = s[k] := rfl
  simp [this, h2]
theorem all_false (f : UInt8 → Bool) (s : ByteArray) (k : Nat) (h : k < s.size) (h2 : f s[k] = false) : s.data.toList.all f = false := by
  rw [List.all_eq_false]
  refine ⟨s[k], ?_, by simp [h2]⟩
  show s.data.toList[k] ∈ _
  exact List.getElem_mem _
theorem nameC_yes {c : UInt8} (h : letterB (c.toNat : Int) = true ∨ digitB (c.toNat : Int) = true ∨ (c.toNat : Int) = 95) : nameC c = true := by
  unfold nameC; rcases h with h | h | h <;> simp [h]
theorem nameC_no {c : UInt8} (h1 : letterB (c.toNat : Int) = false) (h2 : digitB (c.toNat : Int) = false) (h3 : ¬ (c.toNat : Int) = 95) : nameC c = false := by
  unfold nameC; simp [h1, h2, h3]

theorem toL (s : ByteArray) : s.toList = s.data.toList := ByteArray.toList_eq s
theorem empty_yes (s : ByteArray) (h : s.size = 0) : s.toList = [] := by
  rw [toL]; apply List.eq_nil_of_length_eq_zero; rw [len_eq]; exact h
theorem isEmpty_yes (s : ByteArray) (h : s.size = 0) : s.toList.isEmpty = true := by rw [empty_yes s h]; rfl
theorem empty_no (s : ByteArray) (h : 0 < s.size) : ¬ s.toList = [] := by
  rw [toL]; intro e; have h1 : s.data.toList.length = s.size := rfl
  rw [e] at h1; simp at h1; omega
theorem isEmpty_no (s : ByteArray) (h : 0 < s.size) : s.toList.isEmpty = false := by
  rw [List.isEmpty_eq_false_iff]; exact empty_no s h

theorem nameB_l {l : List UInt8} (h : letterB ((l.headD 0).toNat : Int) = false) : nameB l = false := by
  unfold nameB; rw [h]; simp
theorem nameB_g {l : List UInt8} (h : letterB ((l.headD 0).toNat : Int) = true) (h1 : 1 ≤ l.length) (h2 : l.length ≤ 16) : nameB l = l.all nameC := by
  unfold nameB; rw [h]; simp only [h1, h2, decide_true, Bool.true_and]

set_option maxHeartbeats 400000 in
theorem name_any (s : ByteArray) (w : World) (hs : s.size ≤ maxLen) :
    Calls Tryd.prog 159 #[.string s] w fun e w' => e = .returned (.bool (nameB s.data.toList)) ∧ w = w' := by
  unfold maxLen at hs
  by_cases h0 : s.size = 0
  · have hf := Lib.hid (show nameB s.data.toList = false by simp [nameB, h0])
    have he := empty_yes s h0
    have he2 := isEmpty_yes s h0
    clear h0
    go_enter Tryd.func159, Tryd.ntmps159
    go_wp2_with fail
    go_ret
    exact ⟨ret_bool hf.out.symm, rfl⟩
  have hpos : 0 < s.size := by omega
  have he := empty_no s hpos
  have he2 := isEmpty_no s hpos
  have hh := Lib.hid (head_eq s hpos)
  by_cases h16 : 16 < s.size
  · have hf := Lib.hid (show nameB s.data.toList = false by simp [nameB]; omega)
    go_enter Tryd.func159, Tryd.ntmps159
    go_wp2_with fail
    go_ret
    exact ⟨ret_bool hf.out.symm, rfl⟩
  cases hl : letterB (s[0].toNat : Int)
  · have hf := Lib.hid (nameB_l (by rw [head_eq s hpos]; exact hl))
    have HL := Lib.hid hl
    clear hl
    go_enter Tryd.func159, Tryd.ntmps159
    go_wp2_with (go_at_call 185; refine (letter_any _ _).mono ?_; rintro e w' ⟨rfl, rfl⟩; rw [HL.out])
    go_ret
    exact ⟨ret_bool hf.out.symm, rfl⟩
  have hf := Lib.hid (nameB_g (by rw [head_eq s hpos]; exact hl) (by rw [len_eq]; omega) (by rw [len_eq]; omega))
  have HL := Lib.hid hl
  clear hl
  go_enter Tryd.func159, Tryd.ntmps159
  go_wp2_with (go_at_call 185; refine (letter_any _ _).mono ?_; rintro e w' ⟨rfl, rfl⟩; rw [HL.out])
  go_loop [20] (fun i => ∃ k : Nat, k ≤ s.size ∧ i = .int .i64 k ∧ (s.data.toList.take k).all nameC = true) (fun i => s.size - (intOf i).toNat)
  case atStart => exact ⟨0, Nat.zero_le _, rfl, rfl⟩
  case round =>
    obtain ⟨k, hk, rfl, hr⟩ := hrel
    have Hr := Lib.hid hr
    clear hr
    by_cases hlt : k < s.size
    · cases h1 : letterB (s[k].toNat : Int)
      · cases h2 : digitB (s[k].toNat : Int)
        · have H1 := Lib.hid h1; have H2 := Lib.hid h2; clear h1 h2
          by_cases h3 : (s[k].toNat : Int) = 95
          · have h4 := Lib.hid h3
            have h5 : ((s[k].toNat : Int) == 95) = true := by simp [h3]
            have h6 : ((s[k].toNat : Int) != 95) = false := by simp [h3]
            clear h3
            go_wp2_with (first
              | (go_at_call 185; refine (letter_any _ _).mono ?_; rintro e w' ⟨rfl, rfl⟩; rw [H1.out])
              | (go_at_call 186; refine (digit_any _ _).mono ?_; rintro e w' ⟨rfl, rfl⟩; rw [H2.out]))
            go_round
            case rel => exact ⟨k + 1, by omega, by go_num, all_take_succ _ s k hlt Hr.out (nameC_yes (.inr (.inr h4.out)))⟩
            case measure => simp [intOf]; omega
          · have h4 := Lib.hid h3
            have h5 : ((s[k].toNat : Int) == 95) = false := by simp [h3]
            have h6 : ((s[k].toNat : Int) != 95) = true := by simp [h3]
            clear h3
            go_wp2_with (first
              | (go_at_call 185; refine (letter_any _ _).mono ?_; rintro e w' ⟨rfl, rfl⟩; rw [H1.out])
              | (go_at_call 186; refine (digit_any _ _).mono ?_; rintro e w' ⟨rfl, rfl⟩; rw [H2.out]))
            go_ret
            exact ⟨ret_bool (by rw [hf.out]; exact (all_false _ s k hlt (nameC_no H1.out H2.out h4.out)).symm), rfl⟩
        · have H1 := Lib.hid h1; have H2 := Lib.hid h2; clear h1 h2
          go_wp2_with (first
              | (go_at_call 185; refine (letter_any _ _).mono ?_; rintro e w' ⟨rfl, rfl⟩; rw [H1.out])
              | (go_at_call 186; refine (digit_any _ _).mono ?_; rintro e w' ⟨rfl, rfl⟩; rw [H2.out]))
          go_round
          case rel => exact ⟨k + 1, by omega, by go_num, all_take_succ _ s k hlt Hr.out (nameC_yes (.inr (.inl H2.out)))⟩
          case measure => simp [intOf]; omega
      · have H1 := Lib.hid h1; clear h1
        go_wp2_with (first
              | (go_at_call 185; refine (letter_any _ _).mono ?_; rintro e w' ⟨rfl, rfl⟩; rw [H1.out]))
        go_round
        case rel => exact ⟨k + 1, by omega, by go_num, all_take_succ _ s k hlt Hr.out (nameC_yes (.inl H1.out))⟩
        case measure => simp [intOf]; omega
    · go_wp2_with fail
      go_ret
      refine ⟨ret_bool ?_, rfl⟩
      have := Hr.out
      rw [List.take_of_length_le (by simp; omega)] at this
      rw [hf.out, this]


set_option maxHeartbeats 400000 in
theorem rletter_any (c : Int) (w : World) :
    Calls Tryd.prog 103 #[.int .u8 c] w fun e w' => e = .returned (.bool (letterB c)) ∧ w = w' := by
  have hf := Lib.hid (show letterB c = ((decide (97 ≤ c) && decide (c ≤ 122)) || (decide (65 ≤ c) && decide (c ≤ 90))) from rfl)
  by_cases h1 : 97 ≤ c <;> by_cases h2 : c ≤ 122 <;> by_cases h3 : 65 ≤ c <;> by_cases h4 : c ≤ 90 <;> first | omega |
   (go_enter Tryd.func103, Tryd.ntmps103
    go_wp2
    go_ret
    exact ⟨ret_bool (by rw [hf.out]; simp [h1, h2, h3, h4]), rfl⟩)
set_option maxHeartbeats 400000 in
theorem rdigit_any (c : Int) (w : World) :
    Calls Tryd.prog 104 #[.int .u8 c] w fun e w' => e = .returned (.bool (digitB c)) ∧ w = w' := by
  have hf := Lib.hid (show digitB c = ((decide (48 ≤ c) && decide (c ≤ 57))) from rfl)
  by_cases h1 : 48 ≤ c <;> by_cases h2 : c ≤ 57 <;> first | omega |
   (go_enter Tryd.func104, Tryd.ntmps104
    go_wp2
    go_ret
    exact ⟨ret_bool (by rw [hf.out]; simp [h1, h2]), rfl⟩)

set_option maxHeartbeats 800000 in
theorem rname_any (s : ByteArray) (w : World) (hs : s.size ≤ maxLen) :
    Calls Tryd.prog 53 #[.string s] w fun e w' => e = .returned (.bool (nameB s.data.toList)) ∧ w = w' := by
  unfold maxLen at hs
  by_cases h0 : s.size < 1
  · have hf := Lib.hid (show nameB s.data.toList = false by unfold nameB; rw [decide_eq_false (by rw [len_eq]; omega)]; simp)
    go_enter Tryd.func53, Tryd.ntmps53
    go_wp2_with fail
    go_ret
    exact ⟨ret_bool hf.out.symm, rfl⟩
  have hpos : 0 < s.size := by omega
  by_cases h16 : 16 < s.size
  · have hf := Lib.hid (show nameB s.data.toList = false by simp [nameB]; omega)
    go_enter Tryd.func53, Tryd.ntmps53
    go_wp2_with fail
    go_ret
    exact ⟨ret_bool hf.out.symm, rfl⟩
  cases hl : letterB (s[0].toNat : Int)
  · have hf := Lib.hid (nameB_l (by rw [head_eq s hpos]; exact hl))
    have HL := Lib.hid hl
    clear hl
    go_enter Tryd.func53, Tryd.ntmps53
    go_wp2_with (go_at_call 103; refine (rletter_any _ _).mono ?_; rintro e w' ⟨rfl, rfl⟩; rw [HL.out])
    go_ret
    exact ⟨ret_bool hf.out.symm, rfl⟩
  have hf := Lib.hid (nameB_g (by rw [head_eq s hpos]; exact hl) (by rw [len_eq]; omega) (by rw [len_eq]; omega))
  have HL := Lib.hid hl
  clear hl
  go_enter Tryd.func53, Tryd.ntmps53
  go_wp2_with (go_at_call 103; refine (rletter_any _ _).mono ?_; rintro e w' ⟨rfl, rfl⟩; rw [HL.out])
  go_loop [3] (fun i => ∃ k : Nat, k ≤ s.size ∧ i = .int .i64 k ∧ (s.data.toList.take k).all nameC = true) (fun i => s.size - (intOf i).toNat)
  case atStart => exact ⟨0, Nat.zero_le _, rfl, rfl⟩
  case round =>
    obtain ⟨k, hk, rfl, hr⟩ := hrel
    have Hr := Lib.hid hr
    clear hr
    by_cases hlt : k < s.size
    · cases h1 : letterB (s[k].toNat : Int)
      · cases h2 : digitB (s[k].toNat : Int)
        · have H1 := Lib.hid h1; have H2 := Lib.hid h2; clear h1 h2
          by_cases h3 : (s[k].toNat : Int) = 95
          · have h4 := Lib.hid h3
            have h5 : ((s[k].toNat : Int) == 95) = true := by simp [h3]
            have h6 : ((s[k].toNat : Int) != 95) = false := by simp [h3]
            clear h3
            go_wp2_with (first
              | (go_at_call 103; refine (rletter_any _ _).mono ?_; rintro e w' ⟨rfl, rfl⟩; rw [H1.out])
              | (go_at_call 104; refine (rdigit_any _ _).mono ?_; rintro e w' ⟨rfl, rfl⟩; rw [H2.out]))
            go_round
            case rel => exact ⟨k + 1, by omega, by go_num, all_take_succ _ s k hlt Hr.out (nameC_yes (.inr (.inr h4.out)))⟩
            case measure => simp [intOf]; omega
          · have h4 := Lib.hid h3
            have h5 : ((s[k].toNat : Int) == 95) = false := by simp [h3]
            have h6 : ((s[k].toNat : Int) != 95) = true := by simp [h3]
            clear h3
            go_wp2_with (first
              | (go_at_call 103; refine (rletter_any _ _).mono ?_; rintro e w' ⟨rfl, rfl⟩; rw [H1.out])
              | (go_at_call 104; refine (rdigit_any _ _).mono ?_; rintro e w' ⟨rfl, rfl⟩; rw [H2.out]))
            go_ret
            exact ⟨ret_bool (by rw [hf.out]; exact (all_false _ s k hlt (nameC_no H1.out H2.out h4.out)).symm), rfl⟩
        · have H1 := Lib.hid h1; have H2 := Lib.hid h2; clear h1 h2
          go_wp2_with (first
              | (go_at_call 103; refine (rletter_any _ _).mono ?_; rintro e w' ⟨rfl, rfl⟩; rw [H1.out])
              | (go_at_call 104; refine (rdigit_any _ _).mono ?_; rintro e w' ⟨rfl, rfl⟩; rw [H2.out]))
          go_round
          case rel => exact ⟨k + 1, by omega, by go_num, all_take_succ _ s k hlt Hr.out (nameC_yes (.inr (.inl H2.out)))⟩
          case measure => simp [intOf]; omega
      · have H1 := Lib.hid h1; clear h1
        go_wp2_with (first
              | (go_at_call 103; refine (rletter_any _ _).mono ?_; rintro e w' ⟨rfl, rfl⟩; rw [H1.out]))
        go_round
        case rel => exact ⟨k + 1, by omega, by go_num, all_take_succ _ s k hlt Hr.out (nameC_yes (.inl H1.out))⟩
        case measure => simp [intOf]; omega
    · go_wp2_with fail
      go_ret
      refine ⟨ret_bool ?_, rfl⟩
      have := Hr.out
      rw [List.take_of_length_le (by simp; omega)] at this
      rw [hf.out, this]


end Go.Proofs.YtmbcejldifobnaaDoor.Wn

namespace Go.Proofs.YtmbcejldifobnaaDoor
open Go.RowKit
def rtv (r : Rt) : Value := .agg #[.int .i64 r.v.a, .int .i64 r.v.b, .int .i64 r.v.c, .int .i64 r.v.d, .int .i64 r.v.e, .int .i64 r.v.f, .int .i64 r.d]
/-- Block g holds just these numbers. -/
def RowI (w : World) (g : Nat) (t : TypeId) (L : List Int) : Prop := w.heap[g]? = some (.cells (L.map (Value.int .i64)).toArray t (0, 0))
theorem RowI.cell {w : World} {g : Nat} {t : TypeId} {L : List Int} (h : RowI w g t L) {i : Nat} {x : Int} (hx : L[i]? = some x) : w.cell? ⟨g, i, none⟩ = some (.int .i64 x) := by
  rw [Go.Joins.cell_of_block h i]; simp [hx]
theorem RowI.frozen {w : World} {g : Nat} {t : TypeId} {L : List Int} (h : RowI w g t L) (i : Nat) : w.frozen? ⟨g, i, none⟩ = false := by
  have e : w.heap[g]? = some (.cells (L.map (Value.int .i64)).toArray t (0, 0)) := h
  simp [World.frozen?, e]
theorem RowI.lt {w : World} {g : Nat} {t : TypeId} {L : List Int} (h : RowI w g t L) : g < w.heap.size := (Array.getElem?_eq_some_iff.1 h).1
theorem RowI.set {w : World} {g : Nat} {t : TypeId} {L : List Int} (h : RowI w g t L) (i : Nat) (x : Int) : RowI (w.setCell ⟨g, i, none⟩ (.int .i64 x)) g t (L.set i x) := by
  have e : w.heap[g]? = some (.cells (L.map (Value.int .i64)).toArray t (0, 0)) := h
  show (w.setCell _ _).heap[g]? = _
  rw [List.map_set]
  simp [World.setCell, Array.getElem?_modify, e]
theorem RowI.up {w w' : World} {g : Nat} {t : TypeId} {L : List Int} (h : RowI w g t L) (hb : Below w.heap.size w w') : RowI w' g t L := (hb.block g h.lt).trans h
theorem RowI.other {W : World} {g k i : Nat} {t : TypeId} {L : List Int} (h : RowI W g t L) (u : Value) (hne : g ≠ k) : RowI (W.setCell ⟨k, i, none⟩ u) g t L := (setCell_heap hne).trans h
theorem size_setCell' (w : World) (a : Addr) (v : Value) : (w.setCell a v).heap.size = w.heap.size := by simp [World.setCell]
/-- A ratio stored into a block. -/
def putR (w : World) (g : Nat) (x0 x1 x2 x3 x4 x5 d : Int) : World :=
  ((((((w.setCell ⟨g, 0, none⟩ (.int .i64 x0)).setCell ⟨g, 1, none⟩ (.int .i64 x1)).setCell ⟨g, 2, none⟩ (.int .i64 x2)).setCell ⟨g, 3, none⟩ (.int .i64 x3)).setCell ⟨g, 4, none⟩ (.int .i64 x4)).setCell ⟨g, 5, none⟩ (.int .i64 x5)).setCell ⟨g, 6, none⟩ (.int .i64 d)
theorem putR_row {w : World} {g : Nat} {t : TypeId} {a0 a1 a2 a3 a4 a5 a6 : Int} (h : RowI w g t [a0, a1, a2, a3, a4, a5, a6]) (x0 x1 x2 x3 x4 x5 d : Int) : RowI (putR w g x0 x1 x2 x3 x4 x5 d) g t [x0, x1, x2, x3, x4, x5, d] :=
  ((((((h.set 0 x0).set 1 x1).set 2 x2).set 3 x3).set 4 x4).set 5 x5).set 6 d
theorem putR_below {w0 w : World} {B g : Nat} (h : Below B w0 w) (hg : B ≤ g) (x0 x1 x2 x3 x4 x5 d : Int) : Below B w0 (putR w g x0 x1 x2 x3 x4 x5 d) :=
  ((((((h.setCell hg _).setCell hg _).setCell hg _).setCell hg _).setCell hg _).setCell hg _).setCell hg _
theorem RowI.r7 {w : World} {g : Nat} {t : TypeId} {x0 x1 x2 x3 x4 x5 d : Int} (h : RowI w g t [x0, x1, x2, x3, x4, x5, d]) : CellR w g 0 ⟨⟨x0, x1, x2, x3, x4, x5⟩, d⟩ :=
  ⟨h.cell (i := 0) rfl, h.cell (i := 1) rfl, h.cell (i := 2) rfl, h.cell (i := 3) rfl, h.cell (i := 4) rfl, h.cell (i := 5) rfl, h.cell (i := 6) rfl⟩
/-- What a function returns that returns a ratio and an error. -/
def RtPost (w : World) (r : Rt × Int) (e : Ending) (w' : World) : Prop := e = .returned (.tuple #[rtv r.1, .int .i64 r.2]) ∧ Below w.heap.size w w'
/-- The numbers, the first i of them divided. -/
def quoL (G : Int) (l : List Int) (i : Nat) : List Int := (l.take i).map (·.tdiv G) ++ l.drop i
theorem quoL_at {G : Int} {l : List Int} {i : Nat} {x : Int} (h : l[i]? = some x) : (quoL G l i)[i]? = some x := by
  have hi := (List.getElem?_eq_some_iff.1 h).1
  unfold quoL
  rw [List.getElem?_append_right (by simp; omega), List.length_map, List.length_take, List.getElem?_drop, show i + (i - min i l.length) = i by omega]
  exact h
theorem quoL_set {G : Int} {l : List Int} {i : Nat} {x : Int} (h : l[i]? = some x) : (quoL G l i).set i (x.tdiv G) = quoL G l (i + 1) := by
  have hi := (List.getElem?_eq_some_iff.1 h).1
  have hl : ((l.take i).map (·.tdiv G)).length = i := by simp; omega
  unfold quoL
  rw [List.set_append, if_neg (by omega), hl, Nat.sub_self, List.take_add_one, h, List.map_append]
  have hd : l.drop i = x :: l.drop (i + 1) := by
    rw [List.drop_eq_getElem_cons hi]
    congr 1
    rw [List.getElem?_eq_getElem hi] at h
    exact Option.some.inj h
  rw [hd, List.set_cons_zero]
  simp
def LoRel (w : World) (A : Nat) (t : TypeId) (G : Int) (l : List Int) (iv : Value) (wr : World) : Prop :=
  ∃ i : Nat, i ≤ 6 ∧ iv = .int .i64 (i : Int) ∧ RowI wr A t (quoL G l i) ∧ RowI wr (A + 1) 24 [0, 0, 0, 0, 0, 0, 0] ∧ Below w.heap.size w wr
theorem tdiv_bound {x G : Int} {M : Int} (hx : -M ≤ x ∧ x ≤ M) : -M ≤ x.tdiv G ∧ x.tdiv G ≤ M := by
  have h : (x.tdiv G).natAbs ≤ x.natAbs := by rw [Int.natAbs_tdiv]; exact Nat.div_le_self _ _
  omega
set_option maxRecDepth 100000 in
set_option maxHeartbeats 1000000 in
theorem lowest_any (x0 x1 x2 x3 x4 x5 d : Int) (w : World) (hd0 : d ≠ 0) (hd : -1000000000 ≤ d ∧ d ≤ 1000000000) (hx : ∀ n ∈ [x0, x1, x2, x3, x4, x5], -1000000000 ≤ n ∧ n ≤ 1000000000) :
    Calls Tryd.prog 187 #[.agg #[.int .i64 x0, .int .i64 x1, .int .i64 x2, .int .i64 x3, .int .i64 x4, .int .i64 x5], .int .i64 d] w (RtPost w (lowW ⟨x0, x1, x2, x3, x4, x5⟩ d)) := by
  have hco := fun W => common_any x0 x1 x2 x3 x4 x5 d W (by omega) (fun n hn => by have := hx n hn; omega)
  have hgs : V6.gs ⟨x0, x1, x2, x3, x4, x5⟩ d = if d < 0 then -((V6.g ⟨x0, x1, x2, x3, x4, x5⟩ d : Nat) : Int) else ((V6.g ⟨x0, x1, x2, x3, x4, x5⟩ d : Nat) : Int) := rfl
  have hne : V6.gs ⟨x0, x1, x2, x3, x4, x5⟩ d ≠ 0 := gs_ne hd0
  have hgb : V6.g ⟨x0, x1, x2, x3, x4, x5⟩ d ≤ 1000000000 := gl_bound _ _ _ (by omega) (fun n hn => by have := hx n hn; omega)
  have hW : lowW ⟨x0, x1, x2, x3, x4, x5⟩ d = if (Rt.mk ⟨x0.tdiv (V6.gs ⟨x0, x1, x2, x3, x4, x5⟩ d), x1.tdiv (V6.gs ⟨x0, x1, x2, x3, x4, x5⟩ d), x2.tdiv (V6.gs ⟨x0, x1, x2, x3, x4, x5⟩ d), x3.tdiv (V6.gs ⟨x0, x1, x2, x3, x4, x5⟩ d), x4.tdiv (V6.gs ⟨x0, x1, x2, x3, x4, x5⟩ d), x5.tdiv (V6.gs ⟨x0, x1, x2, x3, x4, x5⟩ d)⟩ (d.tdiv (V6.gs ⟨x0, x1, x2, x3, x4, x5⟩ d))).fits = true then ((Rt.mk ⟨x0.tdiv (V6.gs ⟨x0, x1, x2, x3, x4, x5⟩ d), x1.tdiv (V6.gs ⟨x0, x1, x2, x3, x4, x5⟩ d), x2.tdiv (V6.gs ⟨x0, x1, x2, x3, x4, x5⟩ d), x3.tdiv (V6.gs ⟨x0, x1, x2, x3, x4, x5⟩ d), x4.tdiv (V6.gs ⟨x0, x1, x2, x3, x4, x5⟩ d), x5.tdiv (V6.gs ⟨x0, x1, x2, x3, x4, x5⟩ d)⟩ (d.tdiv (V6.gs ⟨x0, x1, x2, x3, x4, x5⟩ d))), (0 : Int)) else (Rt.zero, 7) := rfl
  generalize V6.gs ⟨x0, x1, x2, x3, x4, x5⟩ d = G at *
  generalize V6.g ⟨x0, x1, x2, x3, x4, x5⟩ d = g at *
  have HW := Lib.hid hW
  generalize lowW ⟨x0, x1, x2, x3, x4, x5⟩ d = RW at *
  have HCO := Lib.hid hco
  have HGS := Lib.hid hgs
  have HX := Lib.hid hx
  have hgb2 : (g : Int) ≤ 1000000000 := by omega
  clear hco hgs hW hx
  go_enter Tryd.func187, Tryd.ntmps187
  go_wp2_with fail
  refine (HCO.out _).mono ?_
  rintro e w1 ⟨he, hb1⟩
  subst he
  have hA : RowI w1 w.heap.size 22 (quoL G [x0, x1, x2, x3, x4, x5] 0) :=
    (hb1.block w.heap.size (by simp; omega)).trans (((belA (w.alloc _) _).block w.heap.size (by simp)).trans (heap_alloc_new w _))
  have hR : RowI w1 (w.heap.size + 1) 24 [0, 0, 0, 0, 0, 0, 0] := by
    have h := heap_alloc_new (w.alloc (.cells #[.int .i64 x0, .int .i64 x1, .int .i64 x2, .int .i64 x3, .int .i64 x4, .int .i64 x5] 22)) (.cells #[.int .i64 0, .int .i64 0, .int .i64 0, .int .i64 0, .int .i64 0, .int .i64 0, .int .i64 0] 24)
    rw [World.size_alloc] at h
    exact (hb1.block (w.heap.size + 1) (by simp)).trans h
  have hB : Below w.heap.size w w1 := ((belA w _).trans ((belA (w.alloc _) _).mono (by simp))).trans (hb1.mono (by simp; omega))
  have HA := Lib.hid hA
  have HR := Lib.hid hR
  have HB := Lib.hid hB
  clear hA hR hB hb1 HCO
  by_cases hneg : d < 0
  case' pos =>
    have hG : -(g : Int) = G := by have := HGS.out; rw [if_pos hneg] at this; exact this.symm
    have hGb : -1000000000 ≤ G ∧ G ≤ 1000000000 := by omega
    go_wp2
  case' neg =>
    have hG : (g : Int) = G := by have := HGS.out; rw [if_neg hneg] at this; exact this.symm
    have hGb : -1000000000 ≤ G ∧ G ≤ 1000000000 := by omega
    rw [hG]
    go_wp2
  all_goals
    have q0 : (G == 0) = false := beq_false_of_ne hne
    clear hG
    go_loopw [16] (fun iv wr => LoRel w w.heap.size 22 G [x0, x1, x2, x3, x4, x5] iv wr) (fun iv _ => 6 - (intOf iv).toNat)
    case atStart => exact ⟨0, Nat.zero_le _, rfl, HA.out, HR.out, HB.out⟩
    case round =>
      clear HA HR HB
      obtain ⟨i, hi, rfl, hrow, hres, hb⟩ := hrel
      have HROW := Lib.hid hrow
      have HRES := Lib.hid hres
      have HB := Lib.hid hb
      clear hrow hres hb
      by_cases hil : i < 6
      · obtain ⟨x, hx⟩ : ∃ x, [x0, x1, x2, x3, x4, x5][i]? = some x := ⟨[x0, x1, x2, x3, x4, x5][i], List.getElem?_eq_getElem _⟩
        have hilI : (i : Int) < 6 := by omega
        have hiI : (0 : Int) ≤ (i : Int) := by omega
        have hxb := HX.out x (List.mem_of_getElem? hx)
        have m0 := HROW.out.cell (quoL_at (G := G) hx)
        have f0 := HROW.out.frozen i
        obtain ⟨y, hy⟩ : ∃ y, x.tdiv G = y := ⟨_, rfl⟩
        have hyb : -1000000000 ≤ y ∧ y ≤ 1000000000 := by rw [← hy]; exact tdiv_bound hxb
        have hy2 : IntKind.i64.wrap y = y := IntWalk.i64_in _ (by omega)
        have HXI := Lib.hid hx
        have HY := Lib.hid hy
        clear hx
        go_wp2
        refine ⟨⟨i + 1, by omega, by go_num, ?_, HRES.out.other _ (by omega), HB.out.setCell (Nat.le_refl _) _⟩, by simp [intOf]; omega⟩
        have h := HROW.out.set i y
        rw [← HY.out, quoL_set HXI.out] at h
        rw [HY.out] at h
        exact h
      · obtain rfl : i = 6 := by omega
        have hl6 : quoL G [x0, x1, x2, x3, x4, x5] 6 = [x0.tdiv G, x1.tdiv G, x2.tdiv G, x3.tdiv G, x4.tdiv G, x5.tdiv G] := rfl
        have hrow := HROW.out
        rw [hl6] at hrow
        generalize x0.tdiv G = y0 at *
        generalize x1.tdiv G = y1 at *
        generalize x2.tdiv G = y2 at *
        generalize x3.tdiv G = y3 at *
        generalize x4.tdiv G = y4 at *
        generalize x5.tdiv G = y5 at *
        have hyb := tdiv_bound (G := G) hd
        have hy2 : IntKind.i64.wrap (d.tdiv G) = d.tdiv G := IntWalk.i64_in _ (by omega)
        obtain ⟨ye, hye⟩ : ∃ ye, d.tdiv G = ye := ⟨_, rfl⟩
        rw [hye] at hyb hy2
        have m0 := hrow.cell (i := 0) (x := y0) rfl
        have m1 := hrow.cell (i := 1) (x := y1) rfl
        have m2 := hrow.cell (i := 2) (x := y2) rfl
        have m3 := hrow.cell (i := 3) (x := y3) rfl
        have m4 := hrow.cell (i := 4) (x := y4) rfl
        have m5 := hrow.cell (i := 5) (x := y5) rfl
        have hlt := hrow.lt
        clear hrow hl6 HROW
        go_wp2
        go_region_held3 (fun w' => w'.cell? ⟨w.heap.size, 0, none⟩ = some (.int .i64 y0) ∧ w'.cell? ⟨w.heap.size, 1, none⟩ = some (.int .i64 y1) ∧ w'.cell? ⟨w.heap.size, 2, none⟩ = some (.int .i64 y2) ∧ w'.cell? ⟨w.heap.size, 3, none⟩ = some (.int .i64 y3) ∧ w'.cell? ⟨w.heap.size, 4, none⟩ = some (.int .i64 y4) ∧ w'.cell? ⟨w.heap.size, 5, none⟩ = some (.int .i64 y5)) (go_keep) (fail)
        clear m0 m1 m2 m3 m4 m5
        have hz := HB.out.size
        go_wp2_with fail
        refine (fits_any y0 y1 y2 y3 y4 y5 ye _).mono ?_
        rintro e w3 ⟨he, hb3⟩
        subst he
        have hb3' : Below wr.heap.size wr w3 := (belA wr _).drew.trans (hb3.mono (by simp))
        have hres := HRES.out.up hb3'
        have hbox : w3.heap[wr.heap.size]? = some (.cells #[.int .i64 y0, .int .i64 y1, .int .i64 y2, .int .i64 y3, .int .i64 y4, .int .i64 y5, .int .i64 ye] 24 (0, 0)) := (hb3.block _ (by simp)).trans (heap_alloc_new wr _)
        obtain ⟨r0, r1, r2, r3, r4, r5, r6⟩ := hres.r7
        obtain ⟨n0, n1, n2, n3, n4, n5, n6⟩ := RowI.r7 (x0 := y0) (x1 := y1) (x2 := y2) (x3 := y3) (x4 := y4) (x5 := y5) (d := ye) hbox
        simp only [Nat.zero_add] at r0 r1 r2 r3 r4 r5 r6 n0 n1 n2 n3 n4 n5 n6
        have f0 := hres.frozen 0
        have f1 := hres.frozen 1
        have f2 := hres.frozen 2
        have f3 := hres.frozen 3
        have f4 := hres.frozen 4
        have f5 := hres.frozen 5
        have f6 := hres.frozen 6
        have hB3 : Below w.heap.size w w3 := HB.out.trans (hb3'.mono hz)
        have HB3 := Lib.hid hB3
        have HRS := Lib.hid hres
        have HYE := Lib.hid hye
        clear hB3 hb3 hb3' hres hbox hye HB HRES
        have hWE : RW = if Rt.fits ⟨⟨y0, y1, y2, y3, y4, y5⟩, ye⟩ = true then (⟨⟨y0, y1, y2, y3, y4, y5⟩, ye⟩, 0) else (Rt.zero, 7) := by rw [← HYE.out]; exact HW.out
        have HWE := Lib.hid hWE
        clear hWE HW
        by_cases hf : Rt.fits ⟨⟨y0, y1, y2, y3, y4, y5⟩, ye⟩ = true
        · rw [hf]
          have HF := Lib.hid hf
          clear hf
          go_wp2
          change bodyPost _ _ _ _ _ (putR w3 (w.heap.size + 1) y0 y1 y2 y3 y4 y5 ye)
          obtain ⟨c0, c1, c2, c3, c4, c5, c6⟩ := (putR_row HRS.out y0 y1 y2 y3 y4 y5 ye).r7
          have hB := putR_below HB3.out (show w.heap.size ≤ w.heap.size + 1 by omega) y0 y1 y2 y3 y4 y5 ye
          generalize putR w3 (w.heap.size + 1) y0 y1 y2 y3 y4 y5 ye = W' at *
          simp only [Nat.zero_add] at c0 c1 c2 c3 c4 c5 c6
          refine bodyPost_ret (v := .tuple #[.agg #[.int .i64 y0, .int .i64 y1, .int .i64 y2, .int .i64 y3, .int .i64 y4, .int .i64 y5, .int .i64 ye], .int .i64 0]) (by simp [results, Tryd.results187, c0, c1, c2, c3, c4, c5, c6, go_sem]) rfl ⟨?_, hB⟩
          rw [HWE.out, if_pos HF.out]
          rfl
        · have hf : Rt.fits ⟨⟨y0, y1, y2, y3, y4, y5⟩, ye⟩ = false := by simpa using hf
          rw [hf]
          have HF := Lib.hid hf
          clear hf
          go_wp2
          change bodyPost _ _ _ _ _ (putR w3 (w.heap.size + 1) 0 0 0 0 0 0 0)
          obtain ⟨c0, c1, c2, c3, c4, c5, c6⟩ := (putR_row HRS.out 0 0 0 0 0 0 0).r7
          have hB := putR_below HB3.out (show w.heap.size ≤ w.heap.size + 1 by omega) 0 0 0 0 0 0 0
          generalize putR w3 (w.heap.size + 1) 0 0 0 0 0 0 0 = W' at *
          simp only [Nat.zero_add] at c0 c1 c2 c3 c4 c5 c6
          refine bodyPost_ret (v := .tuple #[.agg #[.int .i64 0, .int .i64 0, .int .i64 0, .int .i64 0, .int .i64 0, .int .i64 0, .int .i64 0], .int .i64 7]) (by simp [results, Tryd.results187, c0, c1, c2, c3, c4, c5, c6, go_sem]) rfl ⟨?_, hB⟩
          rw [HWE.out, if_neg (by rw [HF.out]; exact fun h => by cases h)]
          rfl
end Go.Proofs.YtmbcejldifobnaaDoor

namespace Go.Proofs.YtmbcejldifobnaaDoor
open Go.RowKit
theorem at7 {x0 x1 x2 x3 x4 x5 d n : Int} {i : Nat} (h : [x0, x1, x2, x3, x4, x5][i]? = some n) : [x0, x1, x2, x3, x4, x5, d][i]? = some n := by
  have hi := (List.getElem?_eq_some_iff.1 h).1
  show ([x0, x1, x2, x3, x4, x5] ++ [d])[i]? = _
  rw [List.getElem?_append_left hi]
  exact h
def mixL (Z O : List Int) (i : Nat) : List Int := Z.take i ++ O.drop i
theorem mixL_set {Z O : List Int} {i : Nat} {z : Int} (hl : Z.length = O.length) (h : Z[i]? = some z) : (mixL Z O i).set i z = mixL Z O (i + 1) := by
  have hi := (List.getElem?_eq_some_iff.1 h).1
  have h1 : (Z.take i).length = i := by rw [List.length_take]; omega
  have hd : O.drop i = O[i]'(by omega) :: O.drop (i + 1) := List.drop_eq_getElem_cons (by omega)
  unfold mixL
  rw [List.set_append, if_neg (by omega), h1, Nat.sub_self, hd, List.set_cons_zero, List.take_add_one, h]
  simp
theorem mixL_at {Z O : List Int} {i : Nat} (hl : Z.length = O.length) (hi : i < O.length) : ∃ o, (mixL Z O i)[i]? = some o := by
  unfold mixL
  have h1 : (Z.take i).length = i := by rw [List.length_take]; omega
  refine ⟨O[i], ?_⟩
  rw [List.getElem?_append_right (by omega), h1, Nat.sub_self, List.getElem?_drop, Nat.add_zero]
  exact List.getElem?_eq_getElem hi
def tpZ (x y xd yd s : Int) : Int := x * yd + s * y * xd
theorem zip_at {f : Int → Int → Int} {X Y : List Int} {i : Nat} {x y : Int} (hx : X[i]? = some x) (hy : Y[i]? = some y) : (List.zipWith f X Y)[i]? = some (f x y) := by
  rw [List.getElem?_zipWith, hx, hy]
def tpL (X Y : List Int) (xd yd s : Int) : List Int := List.zipWith (fun x y => tpZ x y xd yd s) X Y
def zero6 : List Int := [0, 0, 0, 0, 0, 0]
def TpRel (w : World) (B : Nat) (X Y : List Int) (xd yd s : Int) (iv : Value) (wr : World) : Prop :=
  ∃ i : Nat, i ≤ 6 ∧ iv = .int .i64 (i : Int) ∧ RowI wr B 24 (X ++ [xd]) ∧ RowI wr (B + 1) 24 (Y ++ [yd]) ∧ RowI wr (B + 1 + 1) 22 (mixL (tpL X Y xd yd s) zero6 i) ∧ Below B w wr
theorem mul_bd {a b A B : Int} (ha : -A ≤ a ∧ a ≤ A) (hb : -B ≤ b ∧ b ≤ B) (hA : 0 ≤ A) : -(A * B) ≤ a * b ∧ a * b ≤ A * B := by
  have hB : 0 ≤ B := by omega
  have h1 : (a * b).natAbs ≤ A.natAbs * B.natAbs := by
    rw [Int.natAbs_mul]; exact Nat.mul_le_mul (by omega) (by omega)
  have h2 : ((A.natAbs * B.natAbs : Nat) : Int) = A * B := by rw [Int.natCast_mul]; congr 1 <;> omega
  omega
theorem RowI.drew {w : World} {g : Nat} {t : TypeId} {L : List Int} (h : RowI w g t L) : RowI w.drew g t L := h
def putA (w : World) (g : Nat) (x0 x1 x2 x3 x4 x5 : Int) : World :=
  (((((w.setCell ⟨g, 0, none⟩ (.int .i64 x0)).setCell ⟨g, 1, none⟩ (.int .i64 x1)).setCell ⟨g, 2, none⟩ (.int .i64 x2)).setCell ⟨g, 3, none⟩ (.int .i64 x3)).setCell ⟨g, 4, none⟩ (.int .i64 x4)).setCell ⟨g, 5, none⟩ (.int .i64 x5)
theorem putA_row {w : World} {g : Nat} {t : TypeId} {a0 a1 a2 a3 a4 a5 : Int} (h : RowI w g t [a0, a1, a2, a3, a4, a5]) (x0 x1 x2 x3 x4 x5 : Int) : RowI (putA w g x0 x1 x2 x3 x4 x5) g t [x0, x1, x2, x3, x4, x5] :=
  (((((h.set 0 x0).set 1 x1).set 2 x2).set 3 x3).set 4 x4).set 5 x5
theorem putA_below {w0 w : World} {B g : Nat} (h : Below B w0 w) (hg : B ≤ g) (x0 x1 x2 x3 x4 x5 : Int) : Below B w0 (putA w g x0 x1 x2 x3 x4 x5) :=
  (((((h.setCell hg _).setCell hg _).setCell hg _).setCell hg _).setCell hg _).setCell hg _
theorem putA_other {w : World} {g k : Nat} {t : TypeId} {L : List Int} (h : RowI w g t L) (hne : g ≠ k) (x0 x1 x2 x3 x4 x5 : Int) : RowI (putA w k x0 x1 x2 x3 x4 x5) g t L :=
  (((((h.other _ hne).other _ hne).other _ hne).other _ hne).other _ hne).other _ hne
def TpPost (w : World) (v : V6) (d : Int) (e : Ending) (w' : World) : Prop := e = .returned (.tuple #[.agg #[.int .i64 v.a, .int .i64 v.b, .int .i64 v.c, .int .i64 v.d, .int .i64 v.e, .int .i64 v.f], .int .i64 d]) ∧ Below w.heap.size w w'
set_option maxRecDepth 100000 in
set_option maxHeartbeats 1000000 in
theorem timesPower_any (x0 x1 x2 x3 x4 x5 xd y0 y1 y2 y3 y4 y5 yd s : Int) (w : World) (hx : ∀ n ∈ [x0, x1, x2, x3, x4, x5], -100000 ≤ n ∧ n ≤ 100000) (hy : ∀ n ∈ [y0, y1, y2, y3, y4, y5], -100000 ≤ n ∧ n ≤ 100000) (hxd : 1 ≤ xd ∧ xd ≤ 1000) (hyd : 1 ≤ yd ∧ yd ≤ 1000) (hs : -1 ≤ s ∧ s ≤ 1) :
    Calls Tryd.prog 40 #[.agg #[.int .i64 x0, .int .i64 x1, .int .i64 x2, .int .i64 x3, .int .i64 x4, .int .i64 x5, .int .i64 xd], .agg #[.int .i64 y0, .int .i64 y1, .int .i64 y2, .int .i64 y3, .int .i64 y4, .int .i64 y5, .int .i64 yd], .int .i64 s] w (TpPost w ⟨tpZ x0 y0 xd yd s, tpZ x1 y1 xd yd s, tpZ x2 y2 xd yd s, tpZ x3 y3 xd yd s, tpZ x4 y4 xd yd s, tpZ x5 y5 xd yd s⟩ (xd * yd)) := by
  have HX := Lib.hid hx
  have HY := Lib.hid hy
  clear hx hy
  go_enter Tryd.func40, Tryd.ntmps40
  go_wp2
  have hx0 : RowI (((w.alloc (.cells #[.int .i64 x0, .int .i64 x1, .int .i64 x2, .int .i64 x3, .int .i64 x4, .int .i64 x5, .int .i64 xd] 24)).alloc (.cells #[.int .i64 y0, .int .i64 y1, .int .i64 y2, .int .i64 y3, .int .i64 y4, .int .i64 y5, .int .i64 yd] 24)).alloc (.cells #[.int .i64 0, .int .i64 0, .int .i64 0, .int .i64 0, .int .i64 0, .int .i64 0] 22)) w.heap.size 24 ([x0, x1, x2, x3, x4, x5] ++ [xd]) :=
    ((belA _ _).block w.heap.size (by simp; omega)).trans (((belA _ _).block w.heap.size (by simp)).trans (heap_alloc_new w _))
  have hy0 : RowI (((w.alloc (.cells #[.int .i64 x0, .int .i64 x1, .int .i64 x2, .int .i64 x3, .int .i64 x4, .int .i64 x5, .int .i64 xd] 24)).alloc (.cells #[.int .i64 y0, .int .i64 y1, .int .i64 y2, .int .i64 y3, .int .i64 y4, .int .i64 y5, .int .i64 yd] 24)).alloc (.cells #[.int .i64 0, .int .i64 0, .int .i64 0, .int .i64 0, .int .i64 0, .int .i64 0] 22)) (w.heap.size + 1) 24 ([y0, y1, y2, y3, y4, y5] ++ [yd]) := by
    have h := heap_alloc_new (w.alloc (.cells #[.int .i64 x0, .int .i64 x1, .int .i64 x2, .int .i64 x3, .int .i64 x4, .int .i64 x5, .int .i64 xd] 24)) (.cells #[.int .i64 y0, .int .i64 y1, .int .i64 y2, .int .i64 y3, .int .i64 y4, .int .i64 y5, .int .i64 yd] 24)
    rw [World.size_alloc] at h
    exact ((belA _ _).block (w.heap.size + 1) (by simp)).trans h
  have hz0 : RowI (((w.alloc (.cells #[.int .i64 x0, .int .i64 x1, .int .i64 x2, .int .i64 x3, .int .i64 x4, .int .i64 x5, .int .i64 xd] 24)).alloc (.cells #[.int .i64 y0, .int .i64 y1, .int .i64 y2, .int .i64 y3, .int .i64 y4, .int .i64 y5, .int .i64 yd] 24)).alloc (.cells #[.int .i64 0, .int .i64 0, .int .i64 0, .int .i64 0, .int .i64 0, .int .i64 0] 22)) (w.heap.size + 1 + 1) 22 (mixL (tpL [x0, x1, x2, x3, x4, x5] [y0, y1, y2, y3, y4, y5] xd yd s) zero6 0) := by
    have h := heap_alloc_new ((w.alloc (.cells #[.int .i64 x0, .int .i64 x1, .int .i64 x2, .int .i64 x3, .int .i64 x4, .int .i64 x5, .int .i64 xd] 24)).alloc (.cells #[.int .i64 y0, .int .i64 y1, .int .i64 y2, .int .i64 y3, .int .i64 y4, .int .i64 y5, .int .i64 yd] 24)) (.cells #[.int .i64 0, .int .i64 0, .int .i64 0, .int .i64 0, .int .i64 0, .int .i64 0] 22)
    rw [World.size_alloc, World.size_alloc] at h
    exact h
  have hb0 := ((belA w (.cells #[.int .i64 x0, .int .i64 x1, .int .i64 x2, .int .i64 x3, .int .i64 x4, .int .i64 x5, .int .i64 xd] 24)).alloc (by simp) (.cells #[.int .i64 y0, .int .i64 y1, .int .i64 y2, .int .i64 y3, .int .i64 y4, .int .i64 y5, .int .i64 yd] 24)).alloc (by simp; omega) (.cells #[.int .i64 0, .int .i64 0, .int .i64 0, .int .i64 0, .int .i64 0, .int .i64 0] 22)
  generalize ((w.alloc (.cells #[.int .i64 x0, .int .i64 x1, .int .i64 x2, .int .i64 x3, .int .i64 x4, .int .i64 x5, .int .i64 xd] 24)).alloc (.cells #[.int .i64 y0, .int .i64 y1, .int .i64 y2, .int .i64 y3, .int .i64 y4, .int .i64 y5, .int .i64 yd] 24)).alloc (.cells #[.int .i64 0, .int .i64 0, .int .i64 0, .int .i64 0, .int .i64 0, .int .i64 0] 22) = W0 at *
  have HX0 := Lib.hid hx0
  have HY0 := Lib.hid hy0
  have HZ0 := Lib.hid hz0
  have HB0 := Lib.hid hb0
  clear hx0 hy0 hz0 hb0
  go_loopw [9] (fun iv wr => TpRel w w.heap.size [x0, x1, x2, x3, x4, x5] [y0, y1, y2, y3, y4, y5] xd yd s iv wr) (fun iv _ => 6 - (intOf iv).toNat)
  case atStart => exact ⟨0, Nat.zero_le _, rfl, HX0.out, HY0.out, HZ0.out, HB0.out⟩
  case round =>
    clear HX0 HY0 HZ0 HB0
    obtain ⟨i, hi, rfl, hrx, hry, hrz, hb⟩ := hrel
    have HRX := Lib.hid hrx
    have HRY := Lib.hid hry
    have HRZ := Lib.hid hrz
    have HB := Lib.hid hb
    clear hrx hry hrz hb
    have kxd := HRX.out.cell (i := 6) (x := xd) rfl
    have kyd := HRY.out.cell (i := 6) (x := yd) rfl
    by_cases hil : i < 6
    · obtain ⟨x, hx⟩ : ∃ x, [x0, x1, x2, x3, x4, x5][i]? = some x := ⟨[x0, x1, x2, x3, x4, x5][i], List.getElem?_eq_getElem _⟩
      obtain ⟨y, hy⟩ : ∃ y, [y0, y1, y2, y3, y4, y5][i]? = some y := ⟨[y0, y1, y2, y3, y4, y5][i], List.getElem?_eq_getElem _⟩
      have hxb := HX.out x (List.mem_of_getElem? hx)
      have hyb := HY.out y (List.mem_of_getElem? hy)
      have kx := HRX.out.cell (at7 (d := xd) hx)
      have ky := HRY.out.cell (at7 (d := yd) hy)
      obtain ⟨o, ho⟩ := mixL_at (Z := tpL [x0, x1, x2, x3, x4, x5] [y0, y1, y2, y3, y4, y5] xd yd s) (O := zero6) (i := i) rfl hil
      have kz := HRZ.out.cell ho
      have fz := HRZ.out.frozen i
      have hset := mixL_set (Z := tpL [x0, x1, x2, x3, x4, x5] [y0, y1, y2, y3, y4, y5] xd yd s) (O := zero6) (i := i) rfl (zip_at hx hy)
      have HSET := Lib.hid hset
      have hilI : (i : Int) < 6 := by omega
      have hiI : (0 : Int) ≤ (i : Int) := by omega
      have p1 := mul_bd (A := 100000) (B := 1000) hxb (show -1000 ≤ yd ∧ yd ≤ 1000 by omega) (by omega)
      have p2 := mul_bd (A := 1) (B := 100000) hs hyb (by omega)
      have p3 := mul_bd (a := s * y) (A := 100000) (B := 1000) (by omega) (show -1000 ≤ xd ∧ xd ≤ 1000 by omega) (by omega)
      obtain ⟨P, hP⟩ : ∃ P, x * yd = P := ⟨_, rfl⟩
      obtain ⟨Q, hQ⟩ : ∃ Q, s * y = Q := ⟨_, rfl⟩
      rw [hP] at p1
      rw [hQ] at p2 p3
      obtain ⟨R, hR⟩ : ∃ R, Q * xd = R := ⟨_, rfl⟩
      rw [hR] at p3
      obtain ⟨T, hT⟩ : ∃ T, P + R = T := ⟨_, rfl⟩
      have hTZ : tpZ x y xd yd s = T := by unfold tpZ; rw [hP, hQ, hR, hT]
      have e1 : IntKind.i64.wrap P = P := IntWalk.i64_in _ (by omega)
      have e2 : IntKind.i64.wrap Q = Q := IntWalk.i64_in _ (by omega)
      have e3 : IntKind.i64.wrap R = R := IntWalk.i64_in _ (by omega)
      have e4 : IntKind.i64.wrap T = T := IntWalk.i64_in _ (by omega)
      have HTZ := Lib.hid hTZ
      have kp0 : (wr.setCell ⟨w.heap.size + 1 + 1, i, none⟩ (.int .i64 T)).drew.cell? ⟨w.heap.size, i, none⟩ = some (.int .i64 x) := (HRX.out.other (.int .i64 T) (by omega)).cell (at7 (d := xd) hx)
      have kp1 : (wr.setCell ⟨w.heap.size + 1 + 1, i, none⟩ (.int .i64 T)).drew.cell? ⟨w.heap.size, 6, none⟩ = some (.int .i64 xd) := (HRX.out.other (.int .i64 T) (by omega)).cell (i := 6) rfl
      have kp2 : (wr.setCell ⟨w.heap.size + 1 + 1, i, none⟩ (.int .i64 T)).drew.cell? ⟨w.heap.size + 1, i, none⟩ = some (.int .i64 y) := (HRY.out.other (.int .i64 T) (by omega)).cell (at7 (d := yd) hy)
      have kp3 : (wr.setCell ⟨w.heap.size + 1 + 1, i, none⟩ (.int .i64 T)).drew.cell? ⟨w.heap.size + 1, 6, none⟩ = some (.int .i64 yd) := (HRY.out.other (.int .i64 T) (by omega)).cell (i := 6) rfl
      clear hx hy ho hset hTZ
      go_wp2
      go_region_held3 (fun w' => w'.cell? ⟨w.heap.size, i, none⟩ = some (.int .i64 x) ∧ w'.cell? ⟨w.heap.size, 6, none⟩ = some (.int .i64 xd) ∧ w'.cell? ⟨w.heap.size + 1, i, none⟩ = some (.int .i64 y) ∧ w'.cell? ⟨w.heap.size + 1, 6, none⟩ = some (.int .i64 yd)) (first | (refine ⟨?_, ?_, ?_, ?_⟩ <;> with_reducible assumption) | go_keep) (fail)
      go_wp2
      refine ⟨⟨i + 1, by omega, by go_num, ?_, ?_, ?_, ?_⟩, by simp [intOf]; omega⟩
      · exact HRX.out.other _ (by omega)
      · exact HRY.out.other _ (by omega)
      · have h := HRZ.out.set i T
        rw [← HTZ.out, HSET.out, HTZ.out] at h
        exact h
      · exact (HB.out.setCell (by show w.heap.size ≤ w.heap.size + 1 + 1; omega) _).drew
    · obtain rfl : i = 6 := by omega
      have hl6 : mixL (tpL [x0, x1, x2, x3, x4, x5] [y0, y1, y2, y3, y4, y5] xd yd s) zero6 6 = [tpZ x0 y0 xd yd s, tpZ x1 y1 xd yd s, tpZ x2 y2 xd yd s, tpZ x3 y3 xd yd s, tpZ x4 y4 xd yd s, tpZ x5 y5 xd yd s] := rfl
      have hrow := HRZ.out
      rw [hl6] at hrow
      clear HRZ hl6
      generalize tpZ x0 y0 xd yd s = z0 at *
      generalize tpZ x1 y1 xd yd s = z1 at *
      generalize tpZ x2 y2 xd yd s = z2 at *
      generalize tpZ x3 y3 xd yd s = z3 at *
      generalize tpZ x4 y4 xd yd s = z4 at *
      generalize tpZ x5 y5 xd yd s = z5 at *
      have m0 := hrow.cell (i := 0) (x := z0) rfl
      have m1 := hrow.cell (i := 1) (x := z1) rfl
      have m2 := hrow.cell (i := 2) (x := z2) rfl
      have m3 := hrow.cell (i := 3) (x := z3) rfl
      have m4 := hrow.cell (i := 4) (x := z4) rfl
      have m5 := hrow.cell (i := 5) (x := z5) rfl
      have f0 := hrow.frozen 0
      have f1 := hrow.frozen 1
      have f2 := hrow.frozen 2
      have f3 := hrow.frozen 3
      have f4 := hrow.frozen 4
      have f5 := hrow.frozen 5
      have p1 := mul_bd (A := 1000) (B := 1000) (show -1000 ≤ xd ∧ xd ≤ 1000 by omega) (show -1000 ≤ yd ∧ yd ≤ 1000 by omega) (by omega)
      obtain ⟨D, hD⟩ : ∃ D, xd * yd = D := ⟨_, rfl⟩
      rw [hD] at p1
      have e1 : IntKind.i64.wrap D = D := IntWalk.i64_in _ (by omega)
      have k0 := putA_row hrow z0 z1 z2 z3 z4 z5
      have k1 := putA_other HRX.out (show w.heap.size ≠ w.heap.size + 1 + 1 by omega) z0 z1 z2 z3 z4 z5
      have k2 := putA_other HRY.out (show w.heap.size + 1 ≠ w.heap.size + 1 + 1 by omega) z0 z1 z2 z3 z4 z5
      have hk : (putA wr (w.heap.size + 1 + 1) z0 z1 z2 z3 z4 z5).drew.cell? ⟨w.heap.size + 1 + 1, 0, none⟩ = some (.int .i64 z0) ∧ (putA wr (w.heap.size + 1 + 1) z0 z1 z2 z3 z4 z5).drew.cell? ⟨w.heap.size + 1 + 1, 1, none⟩ = some (.int .i64 z1) ∧ (putA wr (w.heap.size + 1 + 1) z0 z1 z2 z3 z4 z5).drew.cell? ⟨w.heap.size + 1 + 1, 2, none⟩ = some (.int .i64 z2) ∧ (putA wr (w.heap.size + 1 + 1) z0 z1 z2 z3 z4 z5).drew.cell? ⟨w.heap.size + 1 + 1, 3, none⟩ = some (.int .i64 z3) ∧ (putA wr (w.heap.size + 1 + 1) z0 z1 z2 z3 z4 z5).drew.cell? ⟨w.heap.size + 1 + 1, 4, none⟩ = some (.int .i64 z4) ∧ (putA wr (w.heap.size + 1 + 1) z0 z1 z2 z3 z4 z5).drew.cell? ⟨w.heap.size + 1 + 1, 5, none⟩ = some (.int .i64 z5) ∧ (putA wr (w.heap.size + 1 + 1) z0 z1 z2 z3 z4 z5).drew.cell? ⟨w.heap.size, 6, none⟩ = some (.int .i64 xd) ∧ (putA wr (w.heap.size + 1 + 1) z0 z1 z2 z3 z4 z5).drew.cell? ⟨w.heap.size + 1, 6, none⟩ = some (.int .i64 yd) :=
        ⟨k0.drew.cell (i := 0) (x := z0) rfl, k0.drew.cell (i := 1) (x := z1) rfl, k0.drew.cell (i := 2) (x := z2) rfl, k0.drew.cell (i := 3) (x := z3) rfl, k0.drew.cell (i := 4) (x := z4) rfl, k0.drew.cell (i := 5) (x := z5) rfl, k1.drew.cell (i := 6) (x := xd) rfl, k2.drew.cell (i := 6) (x := yd) rfl⟩
      unfold putA at hk
      have HK := Lib.hid hk
      clear hk
      have HK0 := Lib.hid k0
      have hb6 := putA_below HB.out (show w.heap.size ≤ w.heap.size + 1 + 1 by omega) z0 z1 z2 z3 z4 z5
      have HB6 := Lib.hid hb6
      clear k0 k1 k2 hrow hb6
      go_wp2
      go_region_held3 (fun w' => w'.cell? ⟨w.heap.size + 1 + 1, 0, none⟩ = some (.int .i64 z0) ∧ w'.cell? ⟨w.heap.size + 1 + 1, 1, none⟩ = some (.int .i64 z1) ∧ w'.cell? ⟨w.heap.size + 1 + 1, 2, none⟩ = some (.int .i64 z2) ∧ w'.cell? ⟨w.heap.size + 1 + 1, 3, none⟩ = some (.int .i64 z3) ∧ w'.cell? ⟨w.heap.size + 1 + 1, 4, none⟩ = some (.int .i64 z4) ∧ w'.cell? ⟨w.heap.size + 1 + 1, 5, none⟩ = some (.int .i64 z5) ∧ w'.cell? ⟨w.heap.size, 6, none⟩ = some (.int .i64 xd) ∧ w'.cell? ⟨w.heap.size + 1, 6, none⟩ = some (.int .i64 yd)) (first | with_reducible exact HK.out | go_keep) (fail)
      clear m0 m1 m2 m3 m4 m5 f0 f1 f2 f3 f4 f5 kxd kyd
      go_wp2
      change bodyPost _ _ _ _ _ (putA wr (w.heap.size + 1 + 1) z0 z1 z2 z3 z4 z5).drew
      have k0 := HK0.out.drew
      have hB := HB6.out.drew
      clear HK0 HB6 HK
      generalize (putA wr (w.heap.size + 1 + 1) z0 z1 z2 z3 z4 z5).drew = W' at *
      have c0 := k0.cell (i := 0) (x := z0) rfl
      have c1 := k0.cell (i := 1) (x := z1) rfl
      have c2 := k0.cell (i := 2) (x := z2) rfl
      have c3 := k0.cell (i := 3) (x := z3) rfl
      have c4 := k0.cell (i := 4) (x := z4) rfl
      have c5 := k0.cell (i := 5) (x := z5) rfl
      refine bodyPost_ret (v := .tuple #[.agg #[.int .i64 z0, .int .i64 z1, .int .i64 z2, .int .i64 z3, .int .i64 z4, .int .i64 z5], .int .i64 D]) (by simp [results, Tryd.results40, c0, c1, c2, c3, c4, c5, go_sem]) rfl ⟨?_, hB⟩
      rw [hD]
end Go.Proofs.YtmbcejldifobnaaDoor
