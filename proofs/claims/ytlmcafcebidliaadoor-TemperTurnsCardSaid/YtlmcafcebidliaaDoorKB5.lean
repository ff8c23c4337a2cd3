import Derived.Test.YtlmcafcebidliaaDoorKB4
namespace Go.Proofs.YtlmcafcebidliaaDoor
open Go.RowKit

def psI : List Int := [2, 3, 5, 7, 11, 13]
structure PrL (W : World) : Prop where
  cell : ∀ (i : Nat) (p : Int), psI[i]? = some p → W.cell? ⟨0, i, none⟩ = some (.int .i64 p)
  lt : 0 < W.heap.size
theorem PrL.below {W W' : World} (h : PrL W) (hb : Below W.heap.size W W') : PrL W' :=
  ⟨fun i p hp => (hb.cell (p := ⟨0, i, none⟩) h.lt).trans (h.cell i p hp), Nat.lt_of_lt_of_le h.lt hb.size⟩
theorem PrL.up {W W' : World} {B : Nat} (h : PrL W) (hB : W.heap.size ≤ B) (hb : Below B W W') : PrL W' := h.below (hb.mono hB)
theorem psI_nat (i : Nat) (p : Int) (h : psI[i]? = some p) : ∃ q : Nat, p = (q : Int) ∧ ps6[i]? = some q ∧ 2 ≤ q ∧ q ≤ 13 := by
  match i, h with
  | 0, h => cases h; exact ⟨2, rfl, rfl, by omega, by omega⟩
  | 1, h => cases h; exact ⟨3, rfl, rfl, by omega, by omega⟩
  | 2, h => cases h; exact ⟨5, rfl, rfl, by omega, by omega⟩
  | 3, h => cases h; exact ⟨7, rfl, rfl, by omega, by omega⟩
  | 4, h => cases h; exact ⟨11, rfl, rfl, by omega, by omega⟩
  | 5, h => cases h; exact ⟨13, rfl, rfl, by omega, by omega⟩
theorem nz_append (a b : List (Nat × Int)) : nz (a ++ b) = nz a ++ nz b := by unfold nz; rw [List.filter_append]
theorem zip_take {l : List Int} {i : Nat} {n : Int} {q : Nat} (hq : ps6[i]? = some q) (hn : l[i]? = some n) : ps6.zip (l.take (i + 1)) = ps6.zip (l.take i) ++ [(q, n)] := by
  have h1 : ∀ (ps : List Nat) (l : List Int) (i : Nat), ps[i]? = some q → l[i]? = some n → ps.zip (l.take (i + 1)) = ps.zip (l.take i) ++ [(q, n)] := by
    intro ps
    induction ps with
    | nil => intro l i h; simp at h
    | cons p ps ih =>
      intro l i h1 h2
      cases l with
      | nil => simp at h2
      | cons a l =>
        cases i with
        | zero => simp at h1 h2; subst h1 h2; simp
        | succ i =>
          have := ih l i (by simpa using h1) (by simpa using h2)
          simp only [List.take_succ_cons, List.zip_cons_cons, List.cons_append]
          rw [this]
  exact h1 _ _ _ hq hn
theorem nz_len (l : List (Nat × Int)) : (nz l).length ≤ l.length := List.length_filter_le _ _
def PoRel (w : World) (l : List Int) (v iv : Value) (wr : World) : Prop :=
  ∃ i : Nat, i ≤ 6 ∧ iv = .int .i64 (i : Int) ∧ RowT wr w.heap.size v (nz (ps6.zip (l.take i))) ∧ Below w.heap.size w wr
set_option maxRecDepth 100000 in
set_option maxHeartbeats 1000000 in
theorem powersOf_any (x0 x1 x2 x3 x4 x5 : Int) (w : World) (hp : PrL w) :
    Calls Tryd.prog 87 #[.agg #[.int .i64 x0, .int .i64 x1, .int .i64 x2, .int .i64 x3, .int .i64 x4, .int .i64 x5]] w fun e w' => ∃ v, e = .returned v ∧ RowT w' w.heap.size v (nz (V6.zl ⟨x0, x1, x2, x3, x4, x5⟩)) ∧ Below w.heap.size w w' := by
  have HP := Lib.hid hp
  clear hp
  go_enter Tryd.func87, Tryd.ntmps87
  go_wp2
  go_loopw [3, 7] (fun v iv wr => PoRel w [x0, x1, x2, x3, x4, x5] v iv wr) (fun _ iv _ => 6 - (intOf iv).toNat)
  case atStart => exact ⟨0, Nat.zero_le _, rfl, RowT.nil _ _, belA w _⟩
  case round =>
    obtain ⟨i, hi, rfl, hrow, hb⟩ := hrel
    by_cases hil : i < 6
    · obtain ⟨n, hn⟩ : ∃ n, [x0, x1, x2, x3, x4, x5][i]? = some n := ⟨[x0, x1, x2, x3, x4, x5][i], List.getElem?_eq_getElem _⟩
      have hix := idx6 x0 x1 x2 x3 x4 x5 i n hn
      have hilI : (i : Int) < 6 := by omega
      have hiI : (0 : Int) ≤ (i : Int) := by omega
      obtain ⟨p, hpi⟩ : ∃ p, psI[i]? = some p := ⟨psI[i]'(by simpa [psI] using hil), List.getElem?_eq_getElem _⟩
      obtain ⟨q, rfl, hq, hq2, hq3⟩ := psI_nat i p hpi
      have hpc := (HP.out.below hb).cell i _ hpi
      have hzt := zip_take hq hn
      have HZT := Lib.hid hzt
      have HROW := Lib.hid hrow
      have HB := Lib.hid hb
      have hle : (nz (ps6.zip ([x0, x1, x2, x3, x4, x5].take i))).length ≤ 6 := by
        refine Nat.le_trans (nz_len _) ?_
        rw [List.length_zip, List.length_take]
        have : ps6.length = 6 := rfl
        omega
      clear hpi hq hzt hrow hb hn
      by_cases h0 : n = 0
      · subst h0
        go_wp2
        refine ⟨⟨i + 1, by omega, by go_num, ?_, HB.out⟩, by simp [intOf]; omega⟩
        rw [HZT.out, nz_append]
        have : nz [(q, (0 : Int))] = [] := rfl
        rw [this, List.append_nil]
        exact HROW.out
      · have h0b : (n != 0) = true := by simp [h0]
        have HN0 := Lib.hid h0
        obtain ⟨bA, capA, rfl, hcA, hmA, hfA⟩ := HROW.out.form
        have HFA := Lib.hid hfA
        have hzs := HB.out.size
        clear hfA h0
        have hrow2 := HROW.out.up (belA wr (.cells #[.int .i64 (q : Int), .int .i64 n] 88))
        have HROW2 := Lib.hid hrow2
        clear hrow2
        go_wp2_with (at_builtin; refine append_any rfl (.tmp 13) (.tmp 19) rfl (l := nz (ps6.zip ([x0, x1, x2, x3, x4, x5].take i))) (r := [(q, n)]) rfl HROW2.out wr.heap.size 0 1 rfl (cells_one wr q n) (by simp; omega) (by simp; omega) ?_; intro v' w' hown' hgr' hat')
        refine ⟨⟨i + 1, by omega, by go_num, ?_, ?_⟩, by simp [intOf]; omega⟩
        · rw [HZT.out, nz_append]
          have : nz [(q, n)] = [(q, n)] := by unfold nz; rw [List.filter_cons, if_pos h0b]; rfl
          rw [this]
          exact hown'
        · refine (HB.out.alloc hzs _).grown hgr' (by simp; omega) (fun k hk => ?_)
          rcases HFA.out with ⟨rfl, -, -⟩ | ⟨g, rfl, hg, -, -⟩
          · cases hk
          · cases hk; exact hg
    · obtain rfl : i = 6 := by omega
      have HROW := Lib.hid hrow
      have HB := Lib.hid hb
      clear hrow hb
      go_wp2
      go_ret
      exact ⟨_, rfl, HROW.out, HB.out⟩
end Go.Proofs.YtlmcafcebidliaaDoor
