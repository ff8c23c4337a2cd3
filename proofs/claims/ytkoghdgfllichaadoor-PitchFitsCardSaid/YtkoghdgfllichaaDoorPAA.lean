import Derived.Test.YtkoghdgfllichaaDoorKBA
import Derived.Laws.OwnMore
import Derived.Deep.MidRow
import Derived.Test.YtkoghdgfllichaaDoorKBB
namespace Go.Proofs.YtkoghdgfllichaaDoor.Pc
open Go.RowKit

/-! whole, faster. -/
/-- A root: terms that the call owns, and what root. -/
def RootV (w : World) (B : Nat) (V : Value) (l : List (Nat × Int)) (d : Int) : Prop := ∃ v, V = .agg #[v, .int .i64 d] ∧ RowT w B v l
theorem RootV.up {w w' : World} {B : Nat} {V : Value} {l : List (Nat × Int)} {d : Int} (h : RootV w B V l d) (hb : Below w.heap.size w w') : RootV w' B V l d := by
  obtain ⟨v, e, hr⟩ := h
  exact ⟨v, e, hr.up hb⟩
theorem rowT_lit (w : World) (l : List (Nat × Int)) (cs : Array Value) (hc : cs = (encT l).toArray) (hl : l.length ≤ 1000) : RowT (w.alloc (.cells cs 75)) w.heap.size (.slice (some ⟨w.heap.size, 0, none⟩) l.length l.length) l := by
  subst hc
  have h := World.ownsRow_lit (base := w.heap.size) (e := 75) (size := 2) w (encT l).toArray l.length (Nat.le_refl _) (by unfold maxLen; omega) (by rw [List.size_toArray, encT_len])
  exact h
theorem RowT.low {w : World} {B C : Nat} {v : Value} {l : List (Nat × Int)} (h : RowT w B v l) (hc : C ≤ B) : RowT w C v l := by
  refine ⟨h.1, ?_⟩
  rcases h.2 with h0 | ⟨g, cap, cur, hv, hb, hr⟩
  · exact .inl h0
  · exact .inr ⟨g, cap, cur, hv, Nat.le_trans hc hb, hr⟩
theorem results_one {P : Program} {fn : Func} {tmps : Array Value} {w : World} {a : Nat} {t : TypeId} {A : Addr} {v : Value} (hf : fn.results = #[.cell a t]) (ha : tmps.getD a undef = .pointer (some A)) (hl : (loadVar t A).run P w = .ok v w) : (results fn tmps).run P w = .ok v w := by
  unfold results
  rw [hf]
  have ha2 : tmps[a]?.getD undef = .pointer (some A) := by rw [← ha, Array.getD_eq_getD_getElem?]
  simp [ha2, asAddr, hl]
theorem szRoot (v : Value) (d : Int) : (Tryd.prog.info? 102).map (·.size) = some ([v, .int .i64 d] : List Value).length := by show _ = some 2; kernel_rfl
theorem load_root {w : World} {g : Nat} {v : Value} {d : Int} (h : w.heap[g]? = some (.cells #[v, .int .i64 d] 102 (0, 0))) : (loadVar 102 ⟨g, 0, none⟩).run Tryd.prog w = .ok (.agg #[v, .int .i64 d]) w :=
  run_loadVar_mid w g 0 102 [v, .int .i64 d] _ (fun j u hu => by
    rw [Nat.zero_add, Go.Joins.cell_of_block h j]
    simpa using hu) Tryd.underlying102 rfl (szRoot v d)
set_option maxHeartbeats 1000000 in
theorem whole_any (n : Nat) (w : World) : Calls Tryd.prog 109 #[.int .i64 (n : Int)] w fun e w' => (∃ V, e = .returned V ∧ RootV w' w.heap.size V [(n, 1)] 1) ∧ Below w.heap.size w w' := by
  have hb := (Below.refl w.heap.size w).alloc (Nat.le_refl _) (.cells #[Value.slice (some ⟨w.heap.size + 1, 0, none⟩) 1 1, .int .i64 1] 102)
  have hr := rowT_lit (w.alloc (.cells #[Value.slice (some ⟨w.heap.size + 1, 0, none⟩) 1 1, .int .i64 1] 102)) [(n, 1)] #[.int .i64 (n : Int), .int .i64 1] rfl (by simp)
  rw [World.size_alloc] at hr
  go_enter Tryd.func109, Tryd.ntmps109
  go_wp2
  refine bodyPost_ret (v := .agg #[.slice (some ⟨w.heap.size + 1, 0, none⟩) 1 1, .int .i64 1]) (results_one rfl rfl (load_root ?_)) rfl ⟨⟨_, rfl, _, rfl, RowT.low hr (by omega)⟩, hb.alloc (by simp) _⟩
  exact (((Below.refl _ _).alloc (Nat.le_refl _) _).block _ (by simp)).trans (heap_alloc_new w _)
set_option maxHeartbeats 1000000 in
theorem faster_any (a b : Int) (w : World) (ha : -20000 ≤ a) (ha2 : a ≤ 50000) (hb : -20000 ≤ b) (hb2 : b ≤ 50000) : Calls Tryd.prog 63 #[.int .i64 a, .int .i64 b] w fun e w' => (∃ V, e = .returned V ∧ RootV w' w.heap.size V [((273150 + b).toNat, 1), ((273150 + a).toNat, -1)] 2) ∧ Below w.heap.size w w' := by
  obtain ⟨m, hm⟩ : ∃ m : Nat, 273150 + a = (m : Int) := ⟨(273150 + a).toNat, by omega⟩
  obtain ⟨n, hn⟩ : ∃ n : Nat, 273150 + b = (n : Int) := ⟨(273150 + b).toNat, by omega⟩
  rw [hm, hn, Int.toNat_natCast, Int.toNat_natCast]
  have h0 := (Below.refl w.heap.size w).alloc (Nat.le_refl _) (.cells #[Value.slice (some ⟨w.heap.size + 1, 0, none⟩) 2 2, .int .i64 2] 102)
  have hr := rowT_lit (w.alloc (.cells #[Value.slice (some ⟨w.heap.size + 1, 0, none⟩) 2 2, .int .i64 2] 102)) [(n, 1), (m, -1)] #[.int .i64 (n : Int), .int .i64 1, .int .i64 (m : Int), .int .i64 (-1)] rfl (by simp)
  rw [World.size_alloc] at hr
  go_enter Tryd.func63, Tryd.ntmps63
  go_wp2
  refine bodyPost_ret (v := .agg #[.slice (some ⟨w.heap.size + 1, 0, none⟩) 2 2, .int .i64 2]) (results_one rfl rfl (load_root ?_)) rfl ⟨⟨_, rfl, _, rfl, RowT.low hr (by omega)⟩, h0.alloc (by simp) _⟩
  exact (((Below.refl _ _).alloc (Nat.le_refl _) _).block _ (by simp)).trans (heap_alloc_new w _)
end Go.Proofs.YtkoghdgfllichaaDoor.Pc
namespace Go.Proofs.YtkoghdgfllichaaDoor.Pc
open Go.RowKit

/-! inverse. -/
theorem load_root2 {w : World} {g : Nat} {v : Value} {d : Int} (h0 : w.cell? ⟨g, 0, none⟩ = some v) (h1 : w.cell? ⟨g, 1, none⟩ = some (.int .i64 d)) : (loadVar 102 ⟨g, 0, none⟩).run Tryd.prog w = .ok (.agg #[v, .int .i64 d]) w :=
  run_loadVar_mid w g 0 102 [v, .int .i64 d] _ (fun j u hu => by
    match j, hu with
    | 0, hu => cases hu; exact h0
    | 1, hu => cases hu; exact h1) Tryd.underlying102 rfl (szRoot v d)
def negL (l : List (Nat × Int)) : List (Nat × Int) := l.map fun x => (x.1, -x.2)
theorem negL_take {l : List (Nat × Int)} {i n : Nat} {a : Int} (h : l[i]? = some (n, a)) : negL (l.take (i + 1)) = negL (l.take i) ++ [(n, -a)] := by
  unfold negL
  rw [List.take_add_one, h, List.map_append]
  rfl
theorem negL_len (l : List (Nat × Int)) : (negL l).length = l.length := by simp [negL]
def Bd (K : Int) (l : List (Nat × Int)) : Prop := ∀ x ∈ l, -K ≤ x.2 ∧ x.2 ≤ K
def IvRel (w : World) (A : Option Addr) (cap : Nat) (l : List (Nat × Int)) (d : Int) (tv iv : Value) (wr : World) : Prop :=
  ∃ i : Nat, i ≤ l.length ∧ iv = .int .i64 (i : Int) ∧ RowT wr (w.heap.size + 1 + 1) tv (negL (l.take i)) ∧ wr.heap[w.heap.size]? = some (.cells #[.slice A l.length cap, .int .i64 d] 102 (0, 0)) ∧ wr.heap[w.heap.size + 1]? = some (.cells #[.slice none 0 0, .int .i64 0] 102 (0, 0)) ∧ Below w.heap.size w wr
set_option maxRecDepth 100000 in
set_option maxHeartbeats 2000000 in
theorem inverse_any (A : Option Addr) (cap : Nat) (l : List (Nat × Int)) (d : Int) (w : World) (hv : TmC w w.heap.size (.slice A l.length cap) l) (hbd : Bd 1000000000000000 l) (hl : l.length ≤ 100) :
    Calls Tryd.prog 132 #[.agg #[.slice A l.length cap, .int .i64 d]] w fun e w' => (∃ V, e = .returned V ∧ RootV w' w.heap.size V (negL l) d) ∧ Below w.heap.size w w' := by
  have hh0 : ((w.alloc (.cells #[.slice A l.length cap, .int .i64 d] 102)).alloc (.cells #[.slice none 0 0, .int .i64 0] 102)).heap[w.heap.size]? = some (.cells #[.slice A l.length cap, .int .i64 d] 102 (0, 0)) := ((belA _ _).block _ (by simp)).trans (heap_alloc_new w _)
  have hh1 : ((w.alloc (.cells #[.slice A l.length cap, .int .i64 d] 102)).alloc (.cells #[.slice none 0 0, .int .i64 0] 102)).heap[w.heap.size + 1]? = some (.cells #[.slice none 0 0, .int .i64 0] 102 (0, 0)) := by
    have h := heap_alloc_new (w.alloc (.cells #[.slice A l.length cap, .int .i64 d] 102)) (.cells #[.slice none 0 0, .int .i64 0] 102)
    rw [World.size_alloc] at h
    exact h
  have hb0 := (belA w (.cells #[.slice A l.length cap, .int .i64 d] 102)).alloc (by simp) (.cells #[.slice none 0 0, .int .i64 0] 102)
  have HV := Lib.hid hv
  have HBD := Lib.hid hbd
  have H0 := Lib.hid hh0
  have H1 := Lib.hid hh1
  have HB := Lib.hid hb0
  have hlI : (l.length : Int) ≤ 100 := by omega
  clear hv hbd hh0 hh1 hb0
  go_enter Tryd.func132, Tryd.ntmps132
  go_wp2
  go_loopw [3, 9] (fun tv iv wr => IvRel w A cap l d tv iv wr) (fun _ iv _ => l.length - (intOf iv).toNat)
  case atStart => exact ⟨0, Nat.zero_le _, rfl, RowT.nil _ _, H0.out, H1.out, HB.out⟩
  case round =>
    clear H0 H1 HB
    obtain ⟨i, hi, rfl, hrow, h0, h1, hb⟩ := hrel
    have c0 : wr.cell? ⟨w.heap.size, 1, none⟩ = some (.int .i64 d) := Go.Joins.cell_of_block h0 1
    have H0 := Lib.hid h0
    have H1 := Lib.hid h1
    have HB := Lib.hid hb
    have HROW := Lib.hid hrow
    clear h0 h1 hb hrow
    have hzs := HB.out.size
    have h1lt : w.heap.size + 1 < wr.heap.size := (Array.getElem?_eq_some_iff.1 H1.out).1
    by_cases hil : i < l.length
    · obtain ⟨⟨n, a⟩, hx⟩ : ∃ x, l[i]? = some x := ⟨l[i], List.getElem?_eq_getElem _⟩
      obtain ⟨ha1, ha2⟩ := HBD.out _ (List.mem_of_getElem? hx)
      obtain ⟨A2, cap2, e2, -, hcell⟩ := HV.out
      cases e2
      obtain ⟨g, o, rfl, hg, hcc⟩ := hcell (by intro e; rw [e] at hil; exact Nat.not_lt_zero _ hil)
      obtain ⟨k1, k2⟩ := hcc i _ hx
      have c1 : wr.cell? ⟨g, o + i * 2, none⟩ = some (.int .i64 (n : Int)) := (HB.out.cell (p := ⟨g, _, none⟩) hg).trans k1
      have c2 : wr.cell? ⟨g, o + i * 2 + 1, none⟩ = some (.int .i64 a) := (HB.out.cell (p := ⟨g, _, none⟩) hg).trans k2
      have hilI : (i : Int) < (l.length : Int) := by omega
      have hiI : (0 : Int) ≤ (i : Int) := by omega
      simp only at ha1 ha2
      have wa : IntKind.i64.wrap (-a) = -a := IntWalk.i64_in _ (by omega)
      have hnl : (negL (l.take i)).length = i := by rw [negL_len, List.length_take]; omega
      obtain ⟨bA, capA, rfl, hcA, hmA, hfA⟩ := HROW.out.form
      have hrow2 := (HROW.out.up (belA wr (.cells #[.int .i64 (n : Int), .int .i64 a] 75))).up (belA (wr.alloc (.cells #[.int .i64 (n : Int), .int .i64 a] 75)) (.cells #[.int .i64 (n : Int), .int .i64 (-a)] 75))
      have hco := cells_one (wr.alloc (.cells #[.int .i64 (n : Int), .int .i64 a] 75)) n (-a)
      rw [World.size_alloc] at hco
      have HCO := Lib.hid hco
      have HROW2 := Lib.hid hrow2
      have HFA := Lib.hid hfA
      have HX := Lib.hid hx
      clear hrow2 hfA hx hcell hcc k1 k2 hco
      go_wp2_with (at_builtin; refine append_any rfl (.tmp 13) (.tmp 20) rfl (l := negL (l.take i)) (r := [(n, -a)]) rfl HROW2.out (wr.heap.size + 1) 0 1 rfl HCO.out (by simp; omega) (by simp; omega) ?_; intro v' w' hown' hgr' hat')
      have hne : ∀ k, k ≤ w.heap.size + 1 → ¬ (some k = Value.ownBlock (.slice bA (negL (l.take i)).length capA)) := fun k hk e => by
        rcases HFA.out with ⟨rfl, -, -⟩ | ⟨g2, rfl, hg2, -, -⟩
        · cases e
        · have e2 : k = g2 := Option.some.inj e
          omega
      have keep : ∀ k, k ≤ w.heap.size + 1 → w'.heap[k]? = wr.heap[k]? := fun k hk =>
        (hgr'.block k (by simp; omega) (hne k hk)).trans (((belA _ _).block k (by simp; omega)).trans ((belA _ _).block k (by omega)))
      refine ⟨⟨i + 1, by omega, by go_num, ?_, (keep _ (by omega)).trans H0.out, (keep _ (by omega)).trans H1.out, ?_⟩, by simp [intOf]; omega⟩
      · rw [negL_take HX.out]
        exact hown'
      · refine ((HB.out.alloc hzs _).alloc (by simp; omega) _).grown hgr' (by simp; omega) (fun k hk => ?_)
        rcases HFA.out with ⟨rfl, -, -⟩ | ⟨g2, rfl, hg2, -, -⟩
        · cases hk
        · have e2 : g2 = k := Option.some.inj hk
          omega
    · obtain rfl : i = l.length := by omega
      have hrow := HROW.out
      rw [List.take_length] at hrow
      obtain ⟨bA, capA, rfl, hcA, hmA, hfA⟩ := hrow.form
      have HROW := Lib.hid hrow
      have h1 := H1.out
      have c10 : wr.cell? ⟨w.heap.size + 1, 0, none⟩ = some (.slice none 0 0) := Go.Joins.cell_of_block h1 0
      have c11 : wr.cell? ⟨w.heap.size + 1, 1, none⟩ = some (.int .i64 0) := Go.Joins.cell_of_block h1 1
      have z10 : wr.frozen? ⟨w.heap.size + 1, 0, none⟩ = false := by unfold World.frozen?; simp only [h1]; rfl
      have z11 : wr.frozen? ⟨w.heap.size + 1, 1, none⟩ = false := by unfold World.frozen?; simp only [h1]; rfl
      clear hrow
      go_wp2
      refine bodyPost_ret (v := .agg #[.slice bA (negL l).length capA, .int .i64 d]) (results_one rfl rfl (load_root2 ?_ ?_)) rfl ⟨⟨_, rfl, _, rfl, RowT.low (B := w.heap.size + 1 + 1) (HROW.out.keep fun k hk => ?_) (by omega)⟩, (HB.out.setCell (by show w.heap.size ≤ w.heap.size + 1; omega) _).setCell (by show w.heap.size ≤ w.heap.size + 1; omega) _⟩
      · rw [World.cell?_setCell_other _ _ _ _ (by simp), World.cell?_setCell_same _ _ _ c10]
      · exact World.cell?_setCell_same _ _ _ ((World.cell?_setCell_other _ _ _ _ (by simp)).trans c11)
      · have hk2 : k ≠ w.heap.size + 1 := by
          rcases hfA with ⟨rfl, -, -⟩ | ⟨g2, rfl, hg2, -, -⟩
          · cases hk
          · have e2 : g2 = k := Option.some.inj hk
            omega
        exact (setCell_heap hk2).trans (setCell_heap hk2)
end Go.Proofs.YtkoghdgfllichaaDoor.Pc
