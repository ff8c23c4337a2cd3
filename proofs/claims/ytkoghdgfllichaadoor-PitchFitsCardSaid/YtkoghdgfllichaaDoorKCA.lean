import Derived.Test.YtkoghdgfllichaaDoorKB9
import Derived.Test.YtkoghdgfllichaaDoorRGA
namespace Go.Proofs.YtkoghdgfllichaaDoor
open Go.RowKit

def FlW (v : V6) (s d m : Int) (b : Bool) (er : Int) : Prop :=
  (er = 0 ∧ FlIs v s d m ∧ b = (Fl v s d m == 0) ∧ -1000000000000 ≤ m ∧ m ≤ 1000000000000) ∨ (er = 7 ∧ m = 0 ∧ b = false ∧ (Fl v s d (-1000000000000) < 0 ∨ 0 ≤ Fl v s d 1000000000001))
theorem zl_mem {v : V6} {x : Nat × Int} (h : x ∈ nz v.zl) : (2 ≤ x.1 ∧ x.1 ≤ 13) ∧ x.2 ∈ v.l := by
  have h1 := (List.mem_filter.1 h).1
  have h2 := List.of_mem_zip h1
  refine ⟨?_, h2.2⟩
  have h3 := h2.1
  simp only [ps6, List.mem_cons, List.not_mem_nil, or_false] at h3
  omega
theorem nz_valid {v : V6} (h : ∀ n ∈ v.l, -100000 ≤ n ∧ n ≤ 100000) : validL (nz v.zl) := by
  refine ⟨?_, fun x hx => ?_⟩
  · refine Nat.le_trans (nz_len _) ?_
    unfold V6.zl V6.l ps6
    simp
  · obtain ⟨h1, h2⟩ := zl_mem hx
    have := h _ h2
    omega
theorem zl_sign {v : V6} (h : ∀ n ∈ v.l, -100000 ≤ n ∧ n ≤ 100000) {s d m : Int} (hs1 : 1 ≤ s) (hs2 : s ≤ 1200000) (hd1 : 1 ≤ d) (hd2 : d ≤ 1000) (h1 : -1000000000000 ≤ m) (h2 : m ≤ 1000000000001) : SignOk (scL s (nz v.zl) ++ [(2, -(m * d))]) 36 := by
  have hx : ∀ x ∈ scL s (nz v.zl), 1 ≤ x.1 ∧ x.1 ≤ 13 ∧ x.2.natAbs ≤ 120000000000 := by
    intro x hx
    unfold scL at hx
    obtain ⟨y, hy, rfl⟩ := List.mem_map.1 hx
    obtain ⟨h3, h4⟩ := zl_mem hy
    have h5 := mul_bd (a := y.2) (b := s) (A := 100000) (B := 1200000) (h _ h4) ⟨by omega, hs2⟩ (by omega)
    refine ⟨by simp only; omega, by simp only; omega, ?_⟩
    show (y.2 * s).natAbs ≤ _
    omega
  obtain ⟨s1, s2⟩ := sums_le (N := 13) (e := 120000000000) (w := 3) (by decide) hx
  have hl : (scL s (nz v.zl)).length ≤ 6 := by
    rw [scL_len]
    refine Nat.le_trans (nz_len _) ?_
    unfold V6.zl V6.l ps6
    simp
  have h3 : nA (scL s (nz v.zl)) ≤ 720000000000 := Nat.le_trans s1 (Nat.le_trans (Nat.mul_le_mul_right _ hl) (by decide))
  have h4 : wA (scL s (nz v.zl)) ≤ 2160000000000 := Nat.le_trans s2 (Nat.le_trans (Nat.mul_le_mul_right _ hl) (by decide))
  have h5 := mul_bd (a := m) (b := d) (A := 1000000000001) (B := 1000) ⟨by omega, h2⟩ ⟨by omega, hd2⟩ (by omega)
  have h6 : (-(m * d)).natAbs ≤ 1000000000001000 := by omega
  have e2 : Nat.log2 2 = 1 := by decide
  have hk : (64 : Nat) * 2 ^ 36 - 2 = 4398046511102 := by decide
  refine SignOk.snoc (fun x hx' => ⟨(hx x hx').1, by have := (hx x hx').2.1; omega⟩) (by omega) (by omega) (by omega) ?_ (by omega) (by omega) (by omega)
  rw [e2]; omega
theorem floorV_any (v : Value) (V : V6) (d s : Int) (w : World) (hv : TmC w w.heap.size v (nz V.zl)) (h : ∀ n ∈ V.l, -100000 ≤ n ∧ n ≤ 100000) (hd1 : 1 ≤ d) (hd2 : d ≤ 1000) (hs1 : 1 ≤ s) (hs2 : s ≤ 1200000) :
    Calls Tryd.prog 38 #[v, .int .i64 d, .int .i64 s] w fun e w' => ∃ (m : Int) (b : Bool) (er : Int), e = .returned (.tuple #[.int .i64 m, .bool b, .int .i64 er]) ∧ FlW V s d m b er ∧ Below w.heap.size w w' := by
  refine (Floor_any v (nz V.zl) d s 36 w hv (nz_valid h) hd1 (by omega) hs1 (by omega) (fun m m1 m2 => zl_sign h hs1 hs2 hd1 hd2 m1 m2)).mono ?_
  rintro e w' ⟨hsp, hb⟩
  have hf : ∀ m, sgnP (scL s (nz V.zl) ++ [(2, -(m * d))]) = Fl V s d m := fun m => Fl_of V s d m (by omega)
  unfold SrPost at hsp
  simp only [hf] at hsp
  rcases hsp with ⟨hc, he⟩ | ⟨hc, m, m1, m2, m3, m4, he⟩
  · exact ⟨0, false, 7, he, .inr ⟨rfl, rfl, rfl, hc⟩, hb⟩
  · exact ⟨m, Fl V s d m == 0, 0, he, .inl ⟨rfl, ⟨m3, m4⟩, rfl, m1, m2⟩, hb⟩
theorem cell_bd6 {x0 x1 x2 x3 x4 x5 xd : Int} (h : Rt.Ok ⟨⟨x0, x1, x2, x3, x4, x5⟩, xd⟩) : (∀ n ∈ V6.l ⟨x0, x1, x2, x3, x4, x5⟩, -100000 ≤ n ∧ n ≤ 100000) ∧ 1 ≤ xd ∧ xd ≤ 1000 := h.bds
/-- What Cents returns of x. -/
def CtPost (w : World) (x : Rt) (e : Ending) (w' : World) : Prop :=
  (x.err = 0 ∧ ∃ (m : Int) (b : Bool) (er : Int), e = .returned (.tuple #[.int .i64 m, .bool b, .int .i64 er]) ∧ FlW x.v 1200000 x.d m b er ∧ Below w.heap.size w w') ∨
  (x.err ≠ 0 ∧ e = .returned (.tuple #[.int .i64 0, .bool false, .int .i64 x.err]) ∧ Below w.heap.size w w')
set_option maxRecDepth 100000 in
set_option maxHeartbeats 1000000 in
theorem Cents_any (x0 x1 x2 x3 x4 x5 xd : Int) (w : World) (hp : PrL w) :
    Calls Tryd.prog 12 #[.agg #[.int .i64 x0, .int .i64 x1, .int .i64 x2, .int .i64 x3, .int .i64 x4, .int .i64 x5, .int .i64 xd]] w (CtPost w ⟨⟨x0, x1, x2, x3, x4, x5⟩, xd⟩) := by
  have hE := exR_one ⟨⟨x0, x1, x2, x3, x4, x5⟩, xd⟩
  have hokx := fun h => (Rt.ok_iff (r := ⟨⟨x0, x1, x2, x3, x4, x5⟩, xd⟩)).1 h
  have hex := fun (W : World) (g : Nat) (h : W.heap[g]? = some (.cells (cellsR ⟨⟨x0, x1, x2, x3, x4, x5⟩, xd⟩).toArray 24 (0, 0))) => examineR_any g [⟨⟨x0, x1, x2, x3, x4, x5⟩, xd⟩] W (Array.getElem?_eq_some_iff.1 h).1 (cell_one1 h) (by simp)
  rw [hE] at hex
  have HEX := Lib.hid hex
  have HOX := Lib.hid hokx
  have HP := Lib.hid hp
  clear hex hE hokx hp
  have hCt : ∀ e w', CtPost w ⟨⟨x0, x1, x2, x3, x4, x5⟩, xd⟩ e w' = ((Rt.err ⟨⟨x0, x1, x2, x3, x4, x5⟩, xd⟩ = 0 ∧ ∃ (m : Int) (b : Bool) (er : Int), e = .returned (.tuple #[.int .i64 m, .bool b, .int .i64 er]) ∧ FlW ⟨x0, x1, x2, x3, x4, x5⟩ 1200000 xd m b er ∧ Below w.heap.size w w') ∨
    (Rt.err ⟨⟨x0, x1, x2, x3, x4, x5⟩, xd⟩ ≠ 0 ∧ e = .returned (.tuple #[.int .i64 0, .bool false, .int .i64 (Rt.err ⟨⟨x0, x1, x2, x3, x4, x5⟩, xd⟩)]) ∧ Below w.heap.size w w')) := fun _ _ => rfl
  have HCT := Lib.hid hCt
  clear hCt
  generalize CtPost w ⟨⟨x0, x1, x2, x3, x4, x5⟩, xd⟩ = Post at *
  generalize hee : Rt.err ⟨⟨x0, x1, x2, x3, x4, x5⟩, xd⟩ = E at *
  clear hee
  go_enter Tryd.func12, Tryd.ntmps12
  have HR1 := Lib.hid (RowI.of_alloc w 24 [x0, x1, x2, x3, x4, x5, xd])
  have HB0 := Lib.hid (belA w (.cells #[.int .i64 x0, .int .i64 x1, .int .i64 x2, .int .i64 x3, .int .i64 x4, .int .i64 x5, .int .i64 xd] 24))
  go_wp2_with fail
  refine (HEX.out _ _ (by have h := heap_alloc_new (w.alloc (.cells #[.int .i64 x0, .int .i64 x1, .int .i64 x2, .int .i64 x3, .int .i64 x4, .int .i64 x5, .int .i64 xd] 24)) (.cells (cellsR ⟨⟨x0, x1, x2, x3, x4, x5⟩, xd⟩).toArray 24); rw [World.size_alloc] at h; exact h)).mono ?_
  rintro e w1 ⟨he, hb1⟩
  subst he
  have hb1' := (belA (w.alloc (.cells #[.int .i64 x0, .int .i64 x1, .int .i64 x2, .int .i64 x3, .int .i64 x4, .int .i64 x5, .int .i64 xd] 24)) _).trans (hb1.mono (by simp))
  have hr1 := HR1.out.up hb1'
  have hb := HB0.out.trans (hb1'.mono (by simp))
  clear HR1 HB0 hb1 hb1' HEX
  have HR1 := Lib.hid hr1
  have HB := Lib.hid hb
  have hz := hb.size
  clear hr1 hb
  by_cases hE0 : E = 0
  · subst hE0
    have okx := HOX.out rfl
    obtain ⟨hbd, hd1, hd2⟩ := cell_bd6 okx
    have HBD := Lib.hid hbd
    clear okx hbd
    have hpo : ∀ W, Below w1.heap.size w1 W → Calls Tryd.prog 34 #[.agg #[.int .i64 x0, .int .i64 x1, .int .i64 x2, .int .i64 x3, .int .i64 x4, .int .i64 x5]] W fun e w' => ∃ v, e = .returned v ∧ TmC w' w'.heap.size v (nz (V6.zl ⟨x0, x1, x2, x3, x4, x5⟩)) ∧ Below w1.heap.size w1 w' := fun W hW => by
      refine (powersOf_any x0 x1 x2 x3 x4 x5 W (HP.out.below (HB.out.trans (hW.mono hz)))).mono ?_
      rintro e w' ⟨v, he, hr, hb⟩
      exact ⟨v, he, hr.tmc, hW.trans (hb.mono hW.size)⟩
    have hfl : ∀ (v : Value) (W : World), TmC W W.heap.size v (nz (V6.zl ⟨x0, x1, x2, x3, x4, x5⟩)) → Below w1.heap.size w1 W → Calls Tryd.prog 38 #[v, .int .i64 xd, .int .i64 1200000] W fun e w' => ∃ (m : Int) (b : Bool) (er : Int), e = .returned (.tuple #[.int .i64 m, .bool b, .int .i64 er]) ∧ FlW ⟨x0, x1, x2, x3, x4, x5⟩ 1200000 xd m b er ∧ Below w1.heap.size w1 w' := fun v W hv hW => by
      refine (floorV_any v ⟨x0, x1, x2, x3, x4, x5⟩ xd 1200000 W hv HBD.out hd1 hd2 (by omega) (by omega)).mono ?_
      rintro e w' ⟨m, b, er, he, hf, hb⟩
      exact ⟨m, b, er, he, hf, hW.trans (hb.mono hW.size)⟩
    have HPO := Lib.hid hpo
    have HFL := Lib.hid hfl
    clear hpo hfl
    obtain ⟨c0, c1, c2, c3, c4, c5, c6⟩ := HR1.out.r7
    simp only [Nat.zero_add] at c0 c1 c2 c3 c4 c5 c6
    go_wp2
    go_region_held3 (fun w' => w'.cell? ⟨w.heap.size, 0, none⟩ = some (.int .i64 x0) ∧ w'.cell? ⟨w.heap.size, 1, none⟩ = some (.int .i64 x1) ∧ w'.cell? ⟨w.heap.size, 2, none⟩ = some (.int .i64 x2) ∧ w'.cell? ⟨w.heap.size, 3, none⟩ = some (.int .i64 x3) ∧ w'.cell? ⟨w.heap.size, 4, none⟩ = some (.int .i64 x4) ∧ w'.cell? ⟨w.heap.size, 5, none⟩ = some (.int .i64 x5) ∧ w'.cell? ⟨w.heap.size, 6, none⟩ = some (.int .i64 xd))
      (first | (refine ⟨?_, ?_, ?_, ?_, ?_, ?_, ?_⟩ <;> with_reducible assumption) | go_keep)
      (first
        | (go_at_call 34; refine Calls.mono (HPO.out _ ((Below.refl _ w1).drew)) ?_; clear HPO; rintro e w2 ⟨v, he, htm, hb2⟩; subst he; have HF2 := Lib.hid (HFL.out v w2 htm hb2); clear HFL; clear c0 c1 c2 c3 c4 c5 c6; obtain ⟨c0, c1, c2, c3, c4, c5, c6⟩ := (HR1.out.up hb2).r7; simp only [Nat.zero_add] at c0 c1 c2 c3 c4 c5 c6; clear hb2)
        | (go_at_call 38; refine Calls.mono HF2.out ?_; rintro e w3 ⟨m, b, er, he, hfw, hb3⟩; subst he; have HFW := Lib.hid hfw; have HB3 := Lib.hid (HB.out.trans (hb3.mono hz)); clear hfw; clear c0 c1 c2 c3 c4 c5 c6; obtain ⟨c0, c1, c2, c3, c4, c5, c6⟩ := (HR1.out.up hb3).r7; simp only [Nat.zero_add] at c0 c1 c2 c3 c4 c5 c6; clear hb3))
    go_wp2
    go_ret3
    rw [HCT.out]
    exact .inl ⟨trivial, m, b, er, rfl, HFW.out, HB3.out⟩
  · have hEb : (E != 0) = true := by simp [hE0]
    have HE0 := Lib.hid hE0
    clear hE0
    go_wp2
    go_ret3
    rw [HCT.out]
    exact .inr ⟨HE0.out, rfl, HB.out⟩
end Go.Proofs.YtkoghdgfllichaaDoor
namespace Go.Proofs.YtkoghdgfllichaaDoor
open Go.RowKit

def TePost (w : World) (x : Rt) (e : Ending) (w' : World) : Prop :=
  (x.err = 0 ∧ ∃ v, e = .returned (.tuple #[v, .int .i64 x.d, .int .i64 0]) ∧ RowT w' w.heap.size v (nz x.v.zl) ∧ Below w.heap.size w w') ∨
  (x.err ≠ 0 ∧ e = .returned (.tuple #[.slice none 0 0, .int .i64 0, .int .i64 x.err]) ∧ Below w.heap.size w w')
set_option maxRecDepth 100000 in
set_option maxHeartbeats 1000000 in
theorem Terms_any (x0 x1 x2 x3 x4 x5 xd : Int) (w : World) (hp : PrL w) :
    Calls Tryd.prog 131 #[.agg #[.int .i64 x0, .int .i64 x1, .int .i64 x2, .int .i64 x3, .int .i64 x4, .int .i64 x5, .int .i64 xd]] w (TePost w ⟨⟨x0, x1, x2, x3, x4, x5⟩, xd⟩) := by
  have hE := exR_one ⟨⟨x0, x1, x2, x3, x4, x5⟩, xd⟩
  have hokx := fun h => (Rt.ok_iff (r := ⟨⟨x0, x1, x2, x3, x4, x5⟩, xd⟩)).1 h
  have hex := fun (W : World) (g : Nat) (h : W.heap[g]? = some (.cells (cellsR ⟨⟨x0, x1, x2, x3, x4, x5⟩, xd⟩).toArray 24 (0, 0))) => examineR_any g [⟨⟨x0, x1, x2, x3, x4, x5⟩, xd⟩] W (Array.getElem?_eq_some_iff.1 h).1 (cell_one1 h) (by simp)
  rw [hE] at hex
  have HEX := Lib.hid hex
  have HOX := Lib.hid hokx
  have HP := Lib.hid hp
  clear hex hE hokx hp
  have hCt : ∀ e w', TePost w ⟨⟨x0, x1, x2, x3, x4, x5⟩, xd⟩ e w' = ((Rt.err ⟨⟨x0, x1, x2, x3, x4, x5⟩, xd⟩ = 0 ∧ ∃ v, e = .returned (.tuple #[v, .int .i64 xd, .int .i64 0]) ∧ RowT w' w.heap.size v (nz (V6.zl ⟨x0, x1, x2, x3, x4, x5⟩)) ∧ Below w.heap.size w w') ∨ (Rt.err ⟨⟨x0, x1, x2, x3, x4, x5⟩, xd⟩ ≠ 0 ∧ e = .returned (.tuple #[.slice none 0 0, .int .i64 0, .int .i64 (Rt.err ⟨⟨x0, x1, x2, x3, x4, x5⟩, xd⟩)]) ∧ Below w.heap.size w w')) := fun _ _ => rfl
  have HCT := Lib.hid hCt
  clear hCt
  generalize TePost w ⟨⟨x0, x1, x2, x3, x4, x5⟩, xd⟩ = Post at *
  generalize hee : Rt.err ⟨⟨x0, x1, x2, x3, x4, x5⟩, xd⟩ = E at *
  clear hee
  go_enter Tryd.func131, Tryd.ntmps131
  have HR1 := Lib.hid (RowI.of_alloc w 24 [x0, x1, x2, x3, x4, x5, xd])
  have HB0 := Lib.hid (belA w (.cells #[.int .i64 x0, .int .i64 x1, .int .i64 x2, .int .i64 x3, .int .i64 x4, .int .i64 x5, .int .i64 xd] 24))
  go_wp2_with fail
  refine (HEX.out _ _ (by have h := heap_alloc_new (w.alloc (.cells #[.int .i64 x0, .int .i64 x1, .int .i64 x2, .int .i64 x3, .int .i64 x4, .int .i64 x5, .int .i64 xd] 24)) (.cells (cellsR ⟨⟨x0, x1, x2, x3, x4, x5⟩, xd⟩).toArray 24); rw [World.size_alloc] at h; exact h)).mono ?_
  rintro e w1 ⟨he, hb1⟩
  subst he
  have hb1' := (belA (w.alloc (.cells #[.int .i64 x0, .int .i64 x1, .int .i64 x2, .int .i64 x3, .int .i64 x4, .int .i64 x5, .int .i64 xd] 24)) _).trans (hb1.mono (by simp))
  have hr1 := HR1.out.up hb1'
  have hb := HB0.out.trans (hb1'.mono (by simp))
  clear HR1 HB0 hb1 hb1' HEX
  have HR1 := Lib.hid hr1
  have HB := Lib.hid hb
  have hz := hb.size
  clear hr1 hb
  by_cases hE0 : E = 0
  · subst hE0
    have hpo : ∀ W, Below w1.heap.size w1 W → Calls Tryd.prog 34 #[.agg #[.int .i64 x0, .int .i64 x1, .int .i64 x2, .int .i64 x3, .int .i64 x4, .int .i64 x5]] W fun e w' => ∃ v, e = .returned v ∧ RowT w' w.heap.size v (nz (V6.zl ⟨x0, x1, x2, x3, x4, x5⟩)) ∧ Below w1.heap.size w1 w' := fun W hW => by
      refine (powersOf_any x0 x1 x2 x3 x4 x5 W (HP.out.below (HB.out.trans (hW.mono hz)))).mono ?_
      rintro e w' ⟨v, he, hr, hb⟩
      refine ⟨v, he, ?_, hW.trans (hb.mono hW.size)⟩
      have hzz := Nat.le_trans hz hW.size
      refine ⟨hr.1, ?_⟩
      rcases hr.2 with h | ⟨g, cap, cur, h1, h2, h3⟩
      · exact .inl h
      · exact .inr ⟨g, cap, cur, h1, Nat.le_trans hzz h2, h3⟩
    have HPO := Lib.hid hpo
    clear hpo
    obtain ⟨c0, c1, c2, c3, c4, c5, c6⟩ := HR1.out.r7
    simp only [Nat.zero_add] at c0 c1 c2 c3 c4 c5 c6
    go_wp2
    go_region_held3 (fun w' => w'.cell? ⟨w.heap.size, 0, none⟩ = some (.int .i64 x0) ∧ w'.cell? ⟨w.heap.size, 1, none⟩ = some (.int .i64 x1) ∧ w'.cell? ⟨w.heap.size, 2, none⟩ = some (.int .i64 x2) ∧ w'.cell? ⟨w.heap.size, 3, none⟩ = some (.int .i64 x3) ∧ w'.cell? ⟨w.heap.size, 4, none⟩ = some (.int .i64 x4) ∧ w'.cell? ⟨w.heap.size, 5, none⟩ = some (.int .i64 x5) ∧ w'.cell? ⟨w.heap.size, 6, none⟩ = some (.int .i64 xd))
      (first | (refine ⟨?_, ?_, ?_, ?_, ?_, ?_, ?_⟩ <;> with_reducible assumption) | go_keep)
      (first
        | (go_at_call 34; refine Calls.mono (HPO.out _ ((Below.refl _ w1).drew)) ?_; clear HPO; rintro e w2 ⟨v, he, htm, hb2⟩; subst he; have HTM := Lib.hid htm; have HB2 := Lib.hid (HB.out.trans (hb2.mono hz)); clear htm; clear c0 c1 c2 c3 c4 c5 c6; obtain ⟨c0, c1, c2, c3, c4, c5, c6⟩ := (HR1.out.up hb2).r7; simp only [Nat.zero_add] at c0 c1 c2 c3 c4 c5 c6; clear hb2))
    go_wp2
    go_ret3
    rw [HCT.out]
    exact .inl ⟨trivial, v, rfl, HTM.out, HB2.out⟩
  · have hEb : (E != 0) = true := by simp [hE0]
    have HE0 := Lib.hid hE0
    clear hE0
    go_wp2
    go_ret3
    rw [HCT.out]
    exact .inr ⟨HE0.out, rfl, HB.out⟩
/-- What Fold returns. -/
def foR (x : Rt) (k : Int) : Rt := ⟨x.v.two (-(k * x.d)), x.d⟩
def FdPost (w : World) (x : Rt) (e : Ending) (w' : World) : Prop :=
  (x.err = 0 ∧ ∃ k : Int, FlIs x.v 1 x.d k ∧ -3000000 ≤ k ∧ k ≤ 3000000 ∧ Below w.heap.size w w' ∧
    (((foR x k).fits = true ∧ e = .returned (.tuple #[rtv (foR x k), .int .i64 k, .int .i64 0])) ∨ ((foR x k).fits = false ∧ e = .returned (.tuple #[rtv Rt.zero, .int .i64 0, .int .i64 7])))) ∨
  (x.err ≠ 0 ∧ e = .returned (.tuple #[rtv Rt.zero, .int .i64 0, .int .i64 x.err]) ∧ Below w.heap.size w w')
theorem fold_one {v : V6} {d m : Int} {b : Bool} {er : Int} (h : ∀ n ∈ v.l, -100000 ≤ n ∧ n ≤ 100000) (hd : 1 ≤ d) (hw : FlW v 1 d m b er) : er = 0 ∧ FlIs v 1 d m ∧ -3000000 ≤ m ∧ m ≤ 3000000 := by
  have hb : ∀ n ∈ v.l, n.natAbs ≤ 100000 := fun n hn => by have := h n hn; omega
  have hfar : ∀ M : Int, 2400001 ≤ M → 0 ≤ Fl v 1 d (-M) ∧ Fl v 1 d M < 0 := fun M hM => by
    refine Fl_far (b := 100000) hb (by omega) ?_
    have := Int.mul_le_mul_of_nonneg_left hd (show 0 ≤ M by omega)
    omega
  rcases hw with ⟨h1, h2, -, h4, h5⟩ | ⟨-, -, -, h3⟩
  · refine ⟨h1, h2, ?_, ?_⟩
    · have := h2.le (by omega) (hfar 3000000 (by omega)).1; omega
    · rcases Int.lt_or_le 3000000 m with h6 | h6
      · have := Fl_anti (by omega) (Int.le_of_lt h6) h2.1
        have := (hfar 3000000 (by omega)).2
        omega
      · exact h6
  · exfalso
    rcases h3 with h3 | h3
    · have := (hfar 1000000000000 (by omega)).1; omega
    · have := (hfar 1000000000001 (by omega)).2; omega
set_option maxRecDepth 100000 in
set_option maxHeartbeats 1000000 in
theorem Fold_any (x0 x1 x2 x3 x4 x5 xd : Int) (w : World) (hp : PrL w) :
    Calls Tryd.prog 10 #[.agg #[.int .i64 x0, .int .i64 x1, .int .i64 x2, .int .i64 x3, .int .i64 x4, .int .i64 x5, .int .i64 xd]] w (FdPost w ⟨⟨x0, x1, x2, x3, x4, x5⟩, xd⟩) := by
  have hE := exR_one ⟨⟨x0, x1, x2, x3, x4, x5⟩, xd⟩
  have hokx := fun h => (Rt.ok_iff (r := ⟨⟨x0, x1, x2, x3, x4, x5⟩, xd⟩)).1 h
  have hex := fun (W : World) (g : Nat) (h : W.heap[g]? = some (.cells (cellsR ⟨⟨x0, x1, x2, x3, x4, x5⟩, xd⟩).toArray 24 (0, 0))) => examineR_any g [⟨⟨x0, x1, x2, x3, x4, x5⟩, xd⟩] W (Array.getElem?_eq_some_iff.1 h).1 (cell_one1 h) (by simp)
  rw [hE] at hex
  have HEX := Lib.hid hex
  have HOX := Lib.hid hokx
  have HP := Lib.hid hp
  clear hex hE hokx hp
  have hCt : ∀ e w', FdPost w ⟨⟨x0, x1, x2, x3, x4, x5⟩, xd⟩ e w' = ((Rt.err ⟨⟨x0, x1, x2, x3, x4, x5⟩, xd⟩ = 0 ∧ ∃ k : Int, FlIs ⟨x0, x1, x2, x3, x4, x5⟩ 1 xd k ∧ -3000000 ≤ k ∧ k ≤ 3000000 ∧ Below w.heap.size w w' ∧ (((foR ⟨⟨x0, x1, x2, x3, x4, x5⟩, xd⟩ k).fits = true ∧ e = .returned (.tuple #[rtv (foR ⟨⟨x0, x1, x2, x3, x4, x5⟩, xd⟩ k), .int .i64 k, .int .i64 0])) ∨ ((foR ⟨⟨x0, x1, x2, x3, x4, x5⟩, xd⟩ k).fits = false ∧ e = .returned (.tuple #[rtv Rt.zero, .int .i64 0, .int .i64 7])))) ∨ (Rt.err ⟨⟨x0, x1, x2, x3, x4, x5⟩, xd⟩ ≠ 0 ∧ e = .returned (.tuple #[rtv Rt.zero, .int .i64 0, .int .i64 (Rt.err ⟨⟨x0, x1, x2, x3, x4, x5⟩, xd⟩)]) ∧ Below w.heap.size w w')) := fun _ _ => rfl
  have HCT := Lib.hid hCt
  clear hCt
  generalize FdPost w ⟨⟨x0, x1, x2, x3, x4, x5⟩, xd⟩ = Post at *
  generalize hee : Rt.err ⟨⟨x0, x1, x2, x3, x4, x5⟩, xd⟩ = E at *
  clear hee
  go_enter Tryd.func10, Tryd.ntmps10
  have hr2 : RowI ((w.alloc (.cells #[.int .i64 x0, .int .i64 x1, .int .i64 x2, .int .i64 x3, .int .i64 x4, .int .i64 x5, .int .i64 xd] 24)).alloc (.cells #[.int .i64 0, .int .i64 0, .int .i64 0, .int .i64 0, .int .i64 0, .int .i64 0, .int .i64 0] 24)) (w.heap.size + 1) 24 [0, 0, 0, 0, 0, 0, 0] := by
    have h := RowI.of_alloc (w.alloc (.cells #[.int .i64 x0, .int .i64 x1, .int .i64 x2, .int .i64 x3, .int .i64 x4, .int .i64 x5, .int .i64 xd] 24)) 24 [0, 0, 0, 0, 0, 0, 0]
    rw [World.size_alloc] at h
    exact h
  have hr1 : RowI ((w.alloc (.cells #[.int .i64 x0, .int .i64 x1, .int .i64 x2, .int .i64 x3, .int .i64 x4, .int .i64 x5, .int .i64 xd] 24)).alloc (.cells #[.int .i64 0, .int .i64 0, .int .i64 0, .int .i64 0, .int .i64 0, .int .i64 0, .int .i64 0] 24)) w.heap.size 24 [x0, x1, x2, x3, x4, x5, xd] := (RowI.of_alloc w 24 [x0, x1, x2, x3, x4, x5, xd]).alloc _
  have hb0 := (belA w (.cells #[.int .i64 x0, .int .i64 x1, .int .i64 x2, .int .i64 x3, .int .i64 x4, .int .i64 x5, .int .i64 xd] 24)).alloc (by simp) (.cells #[.int .i64 0, .int .i64 0, .int .i64 0, .int .i64 0, .int .i64 0, .int .i64 0, .int .i64 0] 24)
  have HR1 := Lib.hid hr1
  have HR2 := Lib.hid hr2
  have HB0 := Lib.hid hb0
  clear hr1 hr2 hb0
  go_wp2_with fail
  refine (HEX.out _ _ (by have h := heap_alloc_new ((w.alloc (.cells #[.int .i64 x0, .int .i64 x1, .int .i64 x2, .int .i64 x3, .int .i64 x4, .int .i64 x5, .int .i64 xd] 24)).alloc (.cells #[.int .i64 0, .int .i64 0, .int .i64 0, .int .i64 0, .int .i64 0, .int .i64 0, .int .i64 0] 24)) (.cells (cellsR ⟨⟨x0, x1, x2, x3, x4, x5⟩, xd⟩).toArray 24); rw [World.size_alloc, World.size_alloc] at h; exact h)).mono ?_
  rintro e w1 ⟨he, hb1⟩
  subst he
  have hb1' := (belA ((w.alloc (.cells #[.int .i64 x0, .int .i64 x1, .int .i64 x2, .int .i64 x3, .int .i64 x4, .int .i64 x5, .int .i64 xd] 24)).alloc (.cells #[.int .i64 0, .int .i64 0, .int .i64 0, .int .i64 0, .int .i64 0, .int .i64 0, .int .i64 0] 24)) _).trans (hb1.mono (by simp))
  have hr1 := HR1.out.up hb1'
  have hr2 := HR2.out.up hb1'
  have hb := HB0.out.trans (hb1'.mono (by simp; omega))
  clear HR1 HR2 HB0 hb1 hb1' HEX
  have HR1 := Lib.hid hr1
  have HR2 := Lib.hid hr2
  have HB := Lib.hid hb
  have hz := hb.size
  clear hr1 hr2 hb
  by_cases hE0 : E = 0
  · subst hE0
    have okx := HOX.out rfl
    obtain ⟨hbd, hd1, hd2⟩ := cell_bd6 okx
    obtain ⟨bx0, -⟩ := okx.nums
    simp only at bx0
    have HBD := Lib.hid hbd
    clear okx hbd
    have hpo : ∀ W, Below w1.heap.size w1 W → Calls Tryd.prog 34 #[.agg #[.int .i64 x0, .int .i64 x1, .int .i64 x2, .int .i64 x3, .int .i64 x4, .int .i64 x5]] W fun e w' => ∃ v, e = .returned v ∧ TmC w' w'.heap.size v (nz (V6.zl ⟨x0, x1, x2, x3, x4, x5⟩)) ∧ Below w1.heap.size w1 w' := fun W hW => by
      refine (powersOf_any x0 x1 x2 x3 x4 x5 W (HP.out.below (HB.out.trans (hW.mono hz)))).mono ?_
      rintro e w' ⟨v, he, hr, hb⟩
      exact ⟨v, he, hr.tmc, hW.trans (hb.mono hW.size)⟩
    have hfl : ∀ (v : Value) (W : World), TmC W W.heap.size v (nz (V6.zl ⟨x0, x1, x2, x3, x4, x5⟩)) → Below w1.heap.size w1 W → Calls Tryd.prog 38 #[v, .int .i64 xd, .int .i64 1] W fun e w' => ∃ (m : Int) (b : Bool), e = .returned (.tuple #[.int .i64 m, .bool b, .int .i64 0]) ∧ (FlIs ⟨x0, x1, x2, x3, x4, x5⟩ 1 xd m ∧ -3000000 ≤ m ∧ m ≤ 3000000) ∧ Below w1.heap.size w1 w' := fun v W hv hW => by
      refine (floorV_any v ⟨x0, x1, x2, x3, x4, x5⟩ xd 1 W hv HBD.out hd1 hd2 (by omega) (by omega)).mono ?_
      rintro e w' ⟨m, b, er, he, hf, hb⟩
      obtain ⟨h0, hf2⟩ := fold_one HBD.out hd1 hf
      subst h0
      exact ⟨m, b, he, hf2, hW.trans (hb.mono hW.size)⟩
    have HPO := Lib.hid hpo
    have HFL := Lib.hid hfl
    clear hpo hfl
    obtain ⟨c0, c1, c2, c3, c4, c5, c6⟩ := HR1.out.r7
    simp only [Nat.zero_add] at c0 c1 c2 c3 c4 c5 c6
    go_wp2
    go_region_held3 (fun w' => w'.cell? ⟨w.heap.size, 0, none⟩ = some (.int .i64 x0) ∧ w'.cell? ⟨w.heap.size, 1, none⟩ = some (.int .i64 x1) ∧ w'.cell? ⟨w.heap.size, 2, none⟩ = some (.int .i64 x2) ∧ w'.cell? ⟨w.heap.size, 3, none⟩ = some (.int .i64 x3) ∧ w'.cell? ⟨w.heap.size, 4, none⟩ = some (.int .i64 x4) ∧ w'.cell? ⟨w.heap.size, 5, none⟩ = some (.int .i64 x5) ∧ w'.cell? ⟨w.heap.size, 6, none⟩ = some (.int .i64 xd))
      (first | (refine ⟨?_, ?_, ?_, ?_, ?_, ?_, ?_⟩ <;> with_reducible assumption) | go_keep)
      (first
        | (go_at_call 34; refine Calls.mono (HPO.out _ ((Below.refl _ w1).drew)) ?_; clear HPO; rintro e w2 ⟨v, he, htm, hb2⟩; subst he; have HF2 := Lib.hid (HFL.out v w2 htm hb2); clear HFL; clear c0 c1 c2 c3 c4 c5 c6; obtain ⟨c0, c1, c2, c3, c4, c5, c6⟩ := (HR1.out.up hb2).r7; simp only [Nat.zero_add] at c0 c1 c2 c3 c4 c5 c6; clear hb2)
        | (go_at_call 38; refine Calls.mono HF2.out ?_; rintro e w3 ⟨m, b, he, ⟨hfw, hm1, hm2⟩, hb3⟩; subst he; have HFW := Lib.hid hfw; have HB3 := Lib.hid hb3; clear hfw; clear c0 c1 c2 c3 c4 c5 c6; obtain ⟨c0, c1, c2, c3, c4, c5, c6⟩ := (HR1.out.up hb3).r7; simp only [Nat.zero_add] at c0 c1 c2 c3 c4 c5 c6; clear hb3))
    have hr1 := HR1.out.up HB3.out
    have hr2 := HR2.out.up HB3.out
    have hb := HB.out.trans (HB3.out.mono hz)
    have hz3 := hb.size
    have fb0 := hr1.frozen 0
    clear HR1 HR2 HB HB3 HF2
    have p1 := mul_bd (a := m) (b := xd) (A := 3000000) (B := 1000) ⟨hm1, hm2⟩ ⟨by omega, hd2⟩ (by omega)
    obtain ⟨P, hP⟩ : ∃ P, m * xd = P := ⟨_, rfl⟩
    rw [hP] at p1
    have e1 : IntKind.i64.wrap P = P := IntWalk.i64_in _ (by omega)
    obtain ⟨Q, hQ⟩ : ∃ Q, x0 - P = Q := ⟨_, rfl⟩
    have e2 : IntKind.i64.wrap Q = Q := IntWalk.i64_in _ (by omega)
    have hr1' := hr1.set 0 Q
    have hr2' := hr2.other (k := w.heap.size) (i := 0) (.int .i64 Q) (by omega)
    have hb' : Below w.heap.size w (w3.setCell ⟨w.heap.size, 0, none⟩ (.int .i64 Q)) := hb.setCell (Nat.le_refl _) _
    have HR1 := Lib.hid hr1'
    have HR2 := Lib.hid hr2'
    have HB := Lib.hid hb'
    have hfo : foR ⟨⟨x0, x1, x2, x3, x4, x5⟩, xd⟩ m = ⟨⟨Q, x1, x2, x3, x4, x5⟩, xd⟩ := by
      unfold foR V6.two
      simp only
      rw [← hQ, ← hP, Int.sub_eq_add_neg]
    have HFO := Lib.hid hfo
    have hft := fun W => fits_any Q x1 x2 x3 x4 x5 xd W
    have HFT := Lib.hid hft
    clear hr1 hr2 hb hr1' hr2' hb' hfo hft
    obtain ⟨n0, n1, n2, n3, n4, n5, n6⟩ := HR1.out.r7
    simp only [Nat.zero_add] at n0 n1 n2 n3 n4 n5 n6
    go_wp2_with fail
    refine (HFT.out _).mono ?_
    rintro e w4 ⟨he, hb4⟩
    subst he
    have hr1 := HR1.out.up hb4
    have hr2 := HR2.out.up hb4
    have hb := HB.out.trans (hb4.mono (by rw [size_setCell']; exact hz3))
    clear HR1 HR2 HB hb4 HFT n0 n1 n2 n3 n4 n5 n6 c0 c1 c2 c3 c4 c5 c6
    obtain ⟨n0, n1, n2, n3, n4, n5, n6⟩ := hr1.r7
    obtain ⟨c0, c1, c2, c3, c4, c5, c6⟩ := hr2.r7
    simp only [Nat.zero_add] at n0 n1 n2 n3 n4 n5 n6 c0 c1 c2 c3 c4 c5 c6
    have f0 := hr2.frozen 0
    have f1 := hr2.frozen 1
    have f2 := hr2.frozen 2
    have f3 := hr2.frozen 3
    have f4 := hr2.frozen 4
    have f5 := hr2.frozen 5
    have f6 := hr2.frozen 6
    have HR2 := Lib.hid hr2
    have HB := Lib.hid hb
    clear hr1 hr2 hb
    by_cases hf : Rt.fits ⟨⟨Q, x1, x2, x3, x4, x5⟩, xd⟩ = true
    · rw [hf]
      have HF := Lib.hid hf
      clear hf
      go_wp2
      change bodyPost _ _ _ _ _ (putR w4 (w.heap.size + 1) Q x1 x2 x3 x4 x5 xd)
      clear c0 c1 c2 c3 c4 c5 c6
      obtain ⟨c0, c1, c2, c3, c4, c5, c6⟩ := (putR_row HR2.out Q x1 x2 x3 x4 x5 xd).r7
      have hB := putR_below HB.out (show w.heap.size ≤ w.heap.size + 1 by omega) Q x1 x2 x3 x4 x5 xd
      generalize putR w4 (w.heap.size + 1) Q x1 x2 x3 x4 x5 xd = W' at *
      simp only [Nat.zero_add] at c0 c1 c2 c3 c4 c5 c6
      refine bodyPost_ret (v := .tuple #[.agg #[.int .i64 Q, .int .i64 x1, .int .i64 x2, .int .i64 x3, .int .i64 x4, .int .i64 x5, .int .i64 xd], .int .i64 m, .int .i64 0]) (by simp [results, Tryd.results10, c0, c1, c2, c3, c4, c5, c6, go_sem]) rfl ?_
      rw [HCT.out]
      exact .inl ⟨trivial, m, HFW.out, hm1, hm2, hB, .inl ⟨by rw [HFO.out]; exact HF.out, by rw [HFO.out]; rfl⟩⟩
    · have hf : Rt.fits ⟨⟨Q, x1, x2, x3, x4, x5⟩, xd⟩ = false := by simpa using hf
      rw [hf]
      have HF := Lib.hid hf
      clear hf
      go_wp2
      change bodyPost _ _ _ _ _ (putR w4 (w.heap.size + 1) 0 0 0 0 0 0 0)
      clear c0 c1 c2 c3 c4 c5 c6
      obtain ⟨c0, c1, c2, c3, c4, c5, c6⟩ := (putR_row HR2.out 0 0 0 0 0 0 0).r7
      have hB := putR_below HB.out (show w.heap.size ≤ w.heap.size + 1 by omega) 0 0 0 0 0 0 0
      generalize putR w4 (w.heap.size + 1) 0 0 0 0 0 0 0 = W' at *
      simp only [Nat.zero_add] at c0 c1 c2 c3 c4 c5 c6
      refine bodyPost_ret (v := .tuple #[.agg #[.int .i64 0, .int .i64 0, .int .i64 0, .int .i64 0, .int .i64 0, .int .i64 0, .int .i64 0], .int .i64 0, .int .i64 7]) (by simp [results, Tryd.results10, c0, c1, c2, c3, c4, c5, c6, go_sem]) rfl ?_
      rw [HCT.out]
      exact .inl ⟨trivial, m, HFW.out, hm1, hm2, hB, .inr ⟨by rw [HFO.out]; exact HF.out, rfl⟩⟩
  · have hEb : (E != 0) = true := by simp [hE0]
    have HE0 := Lib.hid hE0
    clear hE0
    obtain ⟨c0, c1, c2, c3, c4, c5, c6⟩ := HR2.out.r7
    simp only [Nat.zero_add] at c0 c1 c2 c3 c4 c5 c6
    have f0 := HR2.out.frozen 0
    have f1 := HR2.out.frozen 1
    have f2 := HR2.out.frozen 2
    have f3 := HR2.out.frozen 3
    have f4 := HR2.out.frozen 4
    have f5 := HR2.out.frozen 5
    have f6 := HR2.out.frozen 6
    go_wp2
    change bodyPost _ _ _ _ _ (putR w1 (w.heap.size + 1) 0 0 0 0 0 0 0)
    clear c0 c1 c2 c3 c4 c5 c6
    obtain ⟨c0, c1, c2, c3, c4, c5, c6⟩ := (putR_row HR2.out 0 0 0 0 0 0 0).r7
    have hB := putR_below HB.out (show w.heap.size ≤ w.heap.size + 1 by omega) 0 0 0 0 0 0 0
    generalize putR w1 (w.heap.size + 1) 0 0 0 0 0 0 0 = W' at *
    simp only [Nat.zero_add] at c0 c1 c2 c3 c4 c5 c6
    refine bodyPost_ret (v := .tuple #[.agg #[.int .i64 0, .int .i64 0, .int .i64 0, .int .i64 0, .int .i64 0, .int .i64 0, .int .i64 0], .int .i64 0, .int .i64 E]) (by simp [results, Tryd.results10, c0, c1, c2, c3, c4, c5, c6, go_sem]) rfl ?_
    rw [HCT.out]
    exact .inr ⟨HE0.out, rfl, hB⟩
end Go.Proofs.YtkoghdgfllichaaDoor
