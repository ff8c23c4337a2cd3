import Derived.Test.YtmbcejldifobnaaDoorC04
import Derived.Laws.OwnMore
import Derived.Deep.MidRow
import Derived.Test.YtmbcejldifobnaaDoorC06
import Derived.Deep.AppendLies
import Derived.Test.YtmbcejldifobnaaDoorC05
import Derived.Test.YtmbcejldifobnaaDoorC11
import Derived.Test.YtmbcejldifobnaaDoorC13
namespace Go.Proofs.YtmbcejldifobnaaDoor.Pc
open Go.RowKit
/-- A root: terms that the call owns, and what root. -/
def RootV (w : World) (B : Nat) (V : Value) (l : List (Nat × Int)) (d : Int) : Prop := ∃ v, V = .agg #[v, .int .i64 d] ∧ RowT w B v l
theorem RootV.up {w w' : World} {B : Nat} {V : Value} {l : List (Nat × Int)} {d : Int} (h : RootV w B V l d) (hb : Below w.heap.size w w') : RootV w' B V l d := by
  obtain ⟨v, e, hr⟩ := h
  exact ⟨v, e, hr.up hb⟩
theorem rowT_lit (w : World) (l : List (Nat × Int)) (cs : Array Value) (hc : cs = (encT l).toArray) (hl : l.length ≤ 1000) : RowT (w.alloc (.cells cs 84)) w.heap.size (.slice (some ⟨w.heap.size, 0, none⟩) l.length l.length) l := by
  subst hc
  have h := World.ownsRow_lit (base := w.heap.size) (e := 84) (size := 2) w (encT l).toArray l.length (Nat.le_refl _) (by unfold maxLen; omega) (by rw [List.size_toArray, encT_len])
  exact h
theorem RowT.low {w : World} {B C : Nat} {v : Value} {l : List (Nat × Int)} (h : RowT w B v l) (hc : C ≤ B) : RowT w C v l := by
  refine ⟨h.1, ?_⟩
  rcases h.2 with h0 | ⟨g, cap, cur, hv, hb, hr⟩
  · exact .inl h0
  · exact .inr ⟨g, cap, cur, hv, Nat.le_trans hc hb, hr⟩
theorem results_one {P : Program} {fn : Func} {tmps : Array Value} {w : World} {a : Nat} {t : TypeId} {A : Addr} {v : Value} (hf : fn.results = #[.cell a t]) (ha : tmps.getD a undef = .pointer (some A)) (hl : (loadVar t A).run P w = .ok v w) : (results fn tmps).run P w = .ok v w := by
  unfold results
  rw [hf]
  have ha2 : tmps[a]?.getD undef = .pointer (some A) := by rw [← ha, Array.getD_eq_getD_getElem?]
  simp [ha2, asAddr, hl]
theorem szRoot (v : Value) (d : Int) : (Tryd.prog.info? 113).map (·.size) = some ([v, .int .i64 d] : List Value).length := by show _ = some 2; kernel_rfl
theorem load_root {w : World} {g : Nat} {v : Value} {d : Int} (h : w.heap[g]? = some (.cells #[v, .int .i64 d] 113 (0, 0))) : (loadVar 113 ⟨g, 0, none⟩).run Tryd.prog w = .ok (.agg #[v, .int .i64 d]) w :=
  run_loadVar_mid w g 0 113 [v, .int .i64 d] _ (fun j u hu => by
    rw [Nat.zero_add, Go.Joins.cell_of_block h j]
    simpa using hu) Tryd.underlying113 rfl (szRoot v d)
set_option maxHeartbeats 1000000 in
theorem faster_any (a b : Int) (w : World) (ha : -20000 ≤ a) (ha2 : a ≤ 50000) (hb : -20000 ≤ b) (hb2 : b ≤ 50000) : Calls Tryd.prog 73 #[.int .i64 a, .int .i64 b] w fun e w' => (∃ V, e = .returned V ∧ RootV w' w.heap.size V [((273150 + b).toNat, 1), ((273150 + a).toNat, -1)] 2) ∧ Below w.heap.size w w' := by
  obtain ⟨m, hm⟩ : ∃ m : Nat, 273150 + a = (m : Int) := ⟨(273150 + a).toNat, by omega⟩
  obtain ⟨n, hn⟩ : ∃ n : Nat, 273150 + b = (n : Int) := ⟨(273150 + b).toNat, by omega⟩
  rw [hm, hn, Int.toNat_natCast, Int.toNat_natCast]
  have h0 := (Below.refl w.heap.size w).alloc (Nat.le_refl _) (.cells #[Value.slice (some ⟨w.heap.size + 1, 0, none⟩) 2 2, .int .i64 2] 113)
  have hr := rowT_lit (w.alloc (.cells #[Value.slice (some ⟨w.heap.size + 1, 0, none⟩) 2 2, .int .i64 2] 113)) [(n, 1), (m, -1)] #[.int .i64 (n : Int), .int .i64 1, .int .i64 (m : Int), .int .i64 (-1)] rfl (by simp)
  rw [World.size_alloc] at hr
  go_enter Tryd.func73, Tryd.ntmps73
  go_wp2
  refine bodyPost_ret (v := .agg #[.slice (some ⟨w.heap.size + 1, 0, none⟩) 2 2, .int .i64 2]) (results_one rfl rfl (load_root ?_)) rfl ⟨⟨_, rfl, _, rfl, RowT.low hr (by omega)⟩, h0.alloc (by simp) _⟩
  exact (((Below.refl _ _).alloc (Nat.le_refl _) _).block _ (by simp)).trans (heap_alloc_new w _)
end Go.Proofs.YtmbcejldifobnaaDoor.Pc

namespace Go.Proofs.YtmbcejldifobnaaDoor.Pc
open Go.RowKit
def Bd (K : Int) (l : List (Nat × Int)) : Prop := ∀ x ∈ l, -K ≤ x.2 ∧ x.2 ≤ K
end Go.Proofs.YtmbcejldifobnaaDoor.Pc

namespace Go.Proofs.YtmbcejldifobnaaDoor.Tp
open Go.RowKit
theorem divR (x y : Rt) (w : World) : Calls Tryd.prog 113 #[cR x, cR y] w fun e w' => e = .returned (cR (bothW x y (-1)).1) ∧ Below w.heap.size w w' := div_any' x.v.a x.v.b x.v.c x.v.d x.v.e x.v.f x.d y.v.a y.v.b y.v.c y.v.d y.v.e y.v.f y.d w
theorem foldR (x : Rt) (w : World) (hp : PrL w) : Calls Tryd.prog 116 #[cR x] w fun e w' => FoldP w x e w' := fold_any' x.v.a x.v.b x.v.c x.v.d x.v.e x.v.f x.d w hp
end Go.Proofs.YtmbcejldifobnaaDoor.Tp

namespace Go.Proofs.YtmbcejldifobnaaDoor.Tp
open Go.RowKit
def psN (T : Tm) (i : Nat) : Int × Int := T.ps.getD i (0, 1)
theorem oneR (r : Rt) : (cellsR r).toArray.all (·.oneCell') = true := by simp [cellsR, Value.oneCell']
theorem results_cell {P : Program} {fn : Func} {tmps : Array Value} {w : World} {a : Nat} {t : TypeId} {A : Addr} {v : Value} (hf : fn.results = #[.cell a t]) (ha : tmps.getD a undef = .pointer (some A)) (hl : (loadVar t A).run P w = .ok v w) : (results fn tmps).run P w = .ok v w := by
  unfold results
  rw [hf]
  have ha2 : tmps[a]?.getD undef = .pointer (some A) := by rw [← ha, Array.getD_eq_getD_getElem?]
  simp [ha2, asAddr, Sem.run_bind, hl]
end Go.Proofs.YtmbcejldifobnaaDoor.Tp

namespace Go.Proofs.YtmbcejldifobnaaDoor.Tp
open Go.RowKit
def w32 : V6 := ⟨-1, 1, 0, 0, 0, 0⟩
end Go.Proofs.YtmbcejldifobnaaDoor.Tp

namespace Go.Proofs.YtmbcejldifobnaaDoor.Tp
open Go.RowKit
/-- The numerators over the common denominator. -/
def qN (T : Tm) (D : Int) (i : Nat) : Int := (psN T i).1 * (D / (psN T i).2)
/-- A valid temperament with the fifth wn left, over the denominator D. -/
structure Vd (T : Tm) (D : Int) (wn : Nat) : Prop where
  wo : T.wo = (wn : Int)
  w : wn < 12
  d1 : 1 ≤ D
  d2 : D ≤ 120
  ps : ∀ i, i < 12 → 1 ≤ (psN T i).2 ∧ (psN T i).2 ≤ 24 ∧ -2 * (psN T i).2 ≤ (psN T i).1 ∧ (psN T i).1 ≤ 2 * (psN T i).2 ∧ (psN T i).2 * (D / (psN T i).2) = D ∧ 1 ≤ D / (psN T i).2
  wz : qN T D wn = 0
theorem Vd.q {T : Tm} {D : Int} {wn i : Nat} (h : Vd T D wn) (hi : i < 12) : -(2 * D) ≤ qN T D i ∧ qN T D i ≤ 2 * D := by
  obtain ⟨a, b, c, d, e, f⟩ := h.ps i hi
  unfold qN
  generalize D / (psN T i).2 = k at *
  generalize (psN T i).1 = n at *
  generalize (psN T i).2 = m at *
  have k0 : (0 : Int) ≤ k := by omega
  have h1 := Int.mul_le_mul_of_nonneg_right c k0
  have h2 := Int.mul_le_mul_of_nonneg_right d k0
  have e1 : -2 * m * k = -(2 * D) := by rw [← e]; grind
  have e2 : 2 * m * k = 2 * D := by rw [← e]; grind
  omega
end Go.Proofs.YtmbcejldifobnaaDoor.Tp

namespace Go.Proofs.YtmbcejldifobnaaDoor.Tp
open Go.RowKit
def NotesL (D : Int) (F : Nat → V6) (wn i : Nat) (N : List Rt) : Prop := N.length = 12 ∧ ∀ j, j < i → ∃ r, N[7 * j % 12]? = some r ∧ NoteIs D F wn j r
end Go.Proofs.YtmbcejldifobnaaDoor.Tp

namespace Go.Proofs.YtmbcejldifobnaaDoor.Tp
open Go.RowKit
set_option maxRecDepth 100000 in
set_option maxHeartbeats 1000000 in
theorem between_any (N : List Rt) (fr to : Nat) (a b : Rt) (w : World) (hp : PrL w) (hl : N.length = 12) (hfr : N[fr]? = some a) (hto : N[to]? = some b) : Calls Tryd.prog 157 #[.agg (fl7 N).toArray, .int .i64 (fr : Int), .int .i64 (to : Int)] w (FoldP w (bothW b a (-1)).1) := by
  have hf12 : (fr : Int) < 12 := by have := (List.getElem?_eq_some_iff.1 hfr).1; omega
  have ht12 : (to : Int) < 12 := by have := (List.getElem?_eq_some_iff.1 hto).1; omega
  obtain ⟨W, hW⟩ : ∃ W, W = (w.alloc (.cells (fl7 N).toArray 98)).alloc (.cells #[.int .i64 0, .int .i64 0, .int .i64 0, .int .i64 0, .int .i64 0, .int .i64 0, .int .i64 0] 24) := ⟨_, rfl⟩
  have ha0 : RowV W w.heap.size 98 (fl7 N) := by rw [hW]; exact (RowV.of_alloc w 98 (fl7 N)).alloc _
  have ha1 : RowV W (w.heap.size + 1) 24 (cellsR Rt.zero) := by
    rw [hW]
    have h := RowV.of_alloc (w.alloc (.cells (fl7 N).toArray 98)) 24 (cellsR Rt.zero)
    simp only [World.size_alloc] at h
    exact h
  have hab : Below w.heap.size w W := by rw [hW]; exact (belB w _).alloc (by simp) _
  have HPW := Lib.hid (hp.below hab)
  have HA0 := Lib.hid ha0
  have HA1 := Lib.hid ha1
  have HAB := Lib.hid hab
  have HFR := Lib.hid hfr
  have HTO := Lib.hid hto
  have HW := Lib.hid hW
  clear ha0 ha1 hab hp hfr hto hW hl
  go_enter Tryd.func157, Tryd.ntmps157
  go_wp2_with fail
  rw [← HW.out]
  refine wp_region_noPanic ?_
  have hb0 : Below W.heap.size W W.drew := (Below.refl _ _).drew
  refine wp_region_held_drew (S := fun w' => RowV w' w.heap.size 98 (fl7 N)) (by kernel_rfl) (HA0.out.up hb0) (fun _ => ?_)
  refine wpAnyH_take (i := 0) (oi := ⟨some 7, _, _, _, _, _⟩) (v := ?_) rfl (by kernel_rfl) (by kernel_rfl) (by kernel_rfl) (fun _ _ _ h => h) (Or.inl ⟨by rfl, ?_⟩) (HA0.out.up hb0) ?_
  rotate_left
  · (intro w hSw; go_simp; (try (with_reducible rfl)))
  (try simp only [Act.put, List.setIfInBounds_toArray, List.set_cons_zero, List.set_cons_succ])
  refine wpAnyH_take (i := 1) (oi := ⟨some 8, _, _, _, _, _⟩) (v := ?_) rfl (by kernel_rfl) (by kernel_rfl) (by kernel_rfl) (fun _ _ _ h => h) (Or.inl ⟨by rfl, ?_⟩) (HA0.out.up hb0) ?_
  rotate_left
  · (intro w hSw; go_simp; (try (with_reducible rfl)))
  (try simp only [Act.put, List.setIfInBounds_toArray, List.set_cons_zero, List.set_cons_succ])
  refine wpAnyH_take (i := 2) (oi := ⟨some 9, _, _, _, _, _⟩) (v := _) rfl (by kernel_rfl) (by kernel_rfl) (by kernel_rfl) (fun _ _ _ h => h) (yieldsIf_load_mid (by rfl) 24 _ rfl w.heap.size (to * 7) rfl (cellsR b) _ (fun w' h => RowV.at7 h HTO.out) Tryd.underlying24 rfl (szR _)) (HA0.out.up hb0) ?_
  (try simp only [Act.put, List.setIfInBounds_toArray, List.set_cons_zero, List.set_cons_succ])
  refine wpAnyH_take (i := 3) (oi := ⟨some 10, _, _, _, _, _⟩) (v := ?_) rfl (by kernel_rfl) (by kernel_rfl) (by kernel_rfl) (fun _ _ _ h => h) (Or.inl ⟨by rfl, ?_⟩) (HA0.out.up hb0) ?_
  rotate_left
  · (intro w hSw; go_simp; (try (with_reducible rfl)))
  (try simp only [Act.put, List.setIfInBounds_toArray, List.set_cons_zero, List.set_cons_succ])
  refine wpAnyH_take (i := 4) (oi := ⟨some 11, _, _, _, _, _⟩) (v := ?_) rfl (by kernel_rfl) (by kernel_rfl) (by kernel_rfl) (fun _ _ _ h => h) (Or.inl ⟨by rfl, ?_⟩) (HA0.out.up hb0) ?_
  rotate_left
  · (intro w hSw; go_simp; (try (with_reducible rfl)))
  (try simp only [Act.put, List.setIfInBounds_toArray, List.set_cons_zero, List.set_cons_succ])
  refine wpAnyH_take (i := 5) (oi := ⟨some 12, _, _, _, _, _⟩) (v := _) rfl (by kernel_rfl) (by kernel_rfl) (by kernel_rfl) (fun _ _ _ h => h) (yieldsIf_load_mid (by rfl) 24 _ rfl w.heap.size (fr * 7) rfl (cellsR a) _ (fun w' h => RowV.at7 h HFR.out) Tryd.underlying24 rfl (szR _)) (HA0.out.up hb0) ?_
  (try simp only [Act.put, List.setIfInBounds_toArray, List.set_cons_zero, List.set_cons_succ])
  refine wpAnyH_ready (rs := [6]) (by kernel_rfl) (by simp) (AllReadyH.cons (o := ⟨some 13, _, _, _, _, _⟩) rfl (fun K hK => ?_) AllReadyH.nil)
  rw [if_pos (by rfl)]
  go_simp
  refine (divR b a _).mono ?_
  rintro e u1 ⟨he, hc1⟩
  subst he
  have hb1 := hb0.trans (hc1.mono hb0.size)
  clear hc1
  (try go_wp2_with fail)
  refine hK.out _ _ (HA0.out.up hb1) (fun _ => ?_)
  clear hK K
  (try simp only [Act.put, List.setIfInBounds_toArray, List.set_cons_zero, List.set_cons_succ])
  refine wpAnyH_ready (rs := [7]) (by kernel_rfl) (by simp) (AllReadyH.cons (o := ⟨some 14, _, _, _, _, _⟩) rfl (fun K hK => ?_) AllReadyH.nil)
  rw [if_pos (by rfl)]
  go_simp
  refine (foldR _ _ (HPW.out.below hb1)).mono ?_
  rintro e u2 ⟨r, hf, he, hc2⟩
  subst he
  have hb2 := hb1.trans (hc2.mono hb1.size)
  clear hc2
  (try go_wp2_with fail)
  refine hK.out _ _ (HA0.out.up hb2) (fun _ => ?_)
  clear hK K
  (try simp only [Act.put, List.setIfInBounds_toArray, List.set_cons_zero, List.set_cons_succ])
  have HFO := Lib.hid hf
  clear hf
  refine wpAnyH_ready (rs := [8]) (by kernel_rfl) (by simp) (AllReadyH.cons (o := ⟨none, _, _, _, _, _⟩) rfl (fun K hK => ?_) AllReadyH.nil)
  rw [if_pos (by rfl)]
  have hth := (HA1.out.up hb2).there (o := 0) (n := 7) (by show 0 + 7 ≤ 7; omega)
  refine wp_store_mid 24 _ _ rfl (w.heap.size + 1) 0 (cellsR r).toArray rfl rfl hth (szR _) (oneR _) ?_
  refine hK.out _ _ (RowV.otherCells (Nat.ne_of_lt (by omega)) _ _ _ (HA0.out.up hb2)) (fun _ => ?_)
  clear hK K
  (try simp only [Act.put, List.setIfInBounds_toArray, List.set_cons_zero, List.set_cons_succ])
  refine wpAnyH_done (by kernel_rfl) ?_ _
  refine NoPanic.normal ?_
  have hr2 := (HA1.out.up hb2).setCells (cellsR r) 0 _ _ (by show 0 + 7 ≤ 7; omega)
  have hbf : Below w.heap.size w (u2.setCells (w.heap.size + 1) 0 (cellsR r)) := below_setCells _ _ _ (HAB.out.trans (hb2.mono HAB.out.size)) (by omega)
  have HR2 := Lib.hid hr2
  have HBF := Lib.hid hbf
  clear hr2 hbf hb0 hb1 hb2 hth
  go_wp2_with fail
  exact bodyPost_ret (v := cR r) (results_cell rfl rfl (run_loadVar_mid _ _ 0 _ (cellsR r) _ HR2.out.all Tryd.underlying24 rfl (szR r))) rfl ⟨r, HFO.out, rfl, HBF.out⟩
end Go.Proofs.YtmbcejldifobnaaDoor.Tp

namespace Go.Proofs.YtmbcejldifobnaaDoor.Tp
open Go.RowKit
theorem NotesL.at {D : Int} {F : Nat → V6} {wn c : Nat} {N : List Rt} (h : NotesL D F wn 12 N) (hc : c < 12) : ∃ r, N[c]? = some r ∧ NoteIs D F wn (7 * c % 12) r := by
  obtain ⟨r, h1, h2⟩ := h.2 (7 * c % 12) (by omega)
  rw [show 7 * (7 * c % 12) % 12 = c by omega] at h1
  exact ⟨r, h1, h2⟩
theorem CentIs.bd {r : Rt} {m : Int} (hr : r.Ok) (h : CentIs r m) : -1000000000000 ≤ m ∧ m ≤ 1000000000000 := by
  obtain ⟨b, er, h | h⟩ := h hr
  · exact ⟨h.2.2.2.1, h.2.2.2.2⟩
  · have := h.2.1; omega
end Go.Proofs.YtmbcejldifobnaaDoor.Tp

namespace Go.Proofs.YtmbcejldifobnaaDoor.Tp
open Go.RowKit
theorem results_cell_tmp {P : Program} {fn : Func} {tmps : Array Value} {w : World} {a b : Nat} {t : TypeId} {A : Addr} {v : Value} (hf : fn.results = #[.cell a t, .tmp b]) (ha : tmps.getD a undef = .pointer (some A)) (hl : (loadVar t A).run P w = .ok v w) : (results fn tmps).run P w = .ok (.tuple #[v, tmps.getD b undef]) w := by
  unfold results
  rw [hf]
  have ha2 : tmps[a]?.getD undef = .pointer (some A) := by rw [← ha, Array.getD_eq_getD_getElem?]
  simp [ha2, asAddr, Sem.run_bind, hl]
end Go.Proofs.YtmbcejldifobnaaDoor.Tp

namespace Go.Proofs.YtmbcejldifobnaaDoor.Pc
open Go.RowKit Tp
/-- A root as it is handed in. -/
structure Rr where
  A : Option Addr
  cap : Nat
  l : List (Nat × Int)
  d : Int
def Rr.v (r : Rr) : Value := .slice r.A r.l.length r.cap
def dpr (rs : List Rr) : Int := rs.foldl (fun a r => a * r.d) 1
/-- What product asks of its roots. -/
structure PrOk (rs : List Rr) : Prop where
  n : rs.length ≤ 3
  len : ∀ r ∈ rs, r.l.length ≤ 100
  bd : ∀ r ∈ rs, Bd 1000000000 r.l
  d : ∀ r ∈ rs, 1 ≤ r.d ∧ r.d * (dpr rs / r.d) = dpr rs ∧ 1 ≤ dpr rs / r.d ∧ dpr rs / r.d ≤ 1000000
  p : ∀ i, i ≤ rs.length → 1 ≤ dpr (rs.take i) ∧ dpr (rs.take i) ≤ 1000000000
theorem RowV.c0 {w : World} {g : Nat} {t : TypeId} {x y : Value} (h : RowV w g t [x, y]) : w.cell? ⟨g, 0, none⟩ = some x := h.cell (i := 0) rfl
theorem RowV.c1 {w : World} {g : Nat} {t : TypeId} {x y : Value} (h : RowV w g t [x, y]) : w.cell? ⟨g, 1, none⟩ = some y := h.cell (i := 1) rfl
theorem RowV.z {w : World} {g i : Nat} {t : TypeId} {L : List Value} (h : RowV w g t L) : w.frozen? ⟨g, i, none⟩ = false := by
  have e : w.heap[g]? = some (.cells L.toArray t (0, 0)) := h
  unfold World.frozen?
  simp only [e]
  rfl
end Go.Proofs.YtmbcejldifobnaaDoor.Pc

namespace Go.Proofs.YtmbcejldifobnaaDoor
open Go.RowKit
theorem TmI.up {w w' : World} {v : Value} {l : List (Int × Int)} (h : TmI w w.heap.size v l) (hb : Below w.heap.size w w') : TmI w' w'.heap.size v l := by
  obtain ⟨A, cap, e, hc, hh⟩ := h.keep hb
  refine ⟨A, cap, e, hc, fun hne => ?_⟩
  obtain ⟨g, o, e2, hg, hx⟩ := hh hne
  exact ⟨g, o, e2, Nat.lt_of_lt_of_le hg hb.size, hx⟩
end Go.Proofs.YtmbcejldifobnaaDoor

namespace Go.Proofs.YtmbcejldifobnaaDoor
open Go.RowKit
theorem powerC0 (w : World) (B bp bd g cap : Nat) (l : List (Nat × Int)) (d : Int) (W : World) (h : PwBox w B bp bd g cap l d W) :
    Calls Tryd.prog 165 #[.int .i64 0, .pointer (some ⟨bp, 0, none⟩), .pointer (some ⟨bd, 0, none⟩)] W fun e W' => e = .returned (.int .i64 1) ∧ PwBox w B bp bd g cap l d W' := by
  have H := Lib.hid h
  clear h
  go_enter Tryd.func165, Tryd.ntmps165
  go_wp2
  go_ret
  exact ⟨rfl, H.out⟩
set_option maxRecDepth 100000 in
set_option maxHeartbeats 1000000 in
theorem powerC (w : World) (B bp bd g cap : Nat) (l : List (Nat × Int)) (d m : Int) (k : Nat) (W : World) (h : PwBox w B bp bd g cap l d W) (h1 : 1 ≤ m) (h2 : m ≤ 1000000000001) (hd1 : 1 ≤ d) (hd2 : d ≤ 1000000) (hs : SignOk (l ++ [(m.toNat, -d)]) k) :
    Calls Tryd.prog 165 #[.int .i64 m, .pointer (some ⟨bp, 0, none⟩), .pointer (some ⟨bd, 0, none⟩)] W fun e W' => e = .returned (.int .i64 (sgnP (l ++ [(m.toNat, -d)]))) ∧ PwBox w B bp bd g cap l d W' := by
  have c1 : W.cell? ⟨bp, 0, none⟩ = some (.slice (some ⟨g, 0, none⟩) l.length cap) := Go.Joins.cell_of_block h.box 0
  have c2 : W.cell? ⟨bd, 0, none⟩ = some (.int .i64 d) := Go.Joins.cell_of_block h.den 0
  have s1 : IntKind.i64.wrap (-d) = -d := IntWalk.i64_in _ (by omega)
  obtain ⟨N, rfl⟩ := Int.eq_ofNat_of_zero_le (show 0 ≤ m by omega)
  rw [Int.toNat_natCast] at hs ⊢
  have hm0 : ¬ (N : Int) = 0 := by omega
  obtain ⟨X, hX⟩ : ∃ X : Int, -d = X := ⟨_, rfl⟩
  rw [hX] at hs s1 ⊢
  have HSG := Lib.hid fun W' (h' : TmC W' W'.heap.size (.slice (some ⟨g, 0, none⟩) (l ++ [(N, X)]).length cap) (l ++ [(N, X)])) => sign_any _ _ k W' h' hs
  have H := Lib.hid h
  have hrm := h.room
  clear h hs
  have hlen : (l ++ [(N, X)]).length = l.length + 1 := by simp
  rw [hlen] at HSG
  have hown := H.out.row.up ((Below.refl W.heap.size W).alloc (Nat.le_refl _) (.cells #[.int .i64 (N : Int), .int .i64 X] 84))
  obtain ⟨i0, hi0, hz0, hz1, hz2⟩ := info_parts Tryd.infoT
  go_enter Tryd.func165, Tryd.ntmps165
  go_wp2_with (at_builtin; refine wpList_append_fits _ rfl (.tmp 7) (.tmp 12) 78 rfl B 84 i0 2 Tryd.underlying78 hi0 hz1 g l.length cap (encT l) rfl hown ⟨W.heap.size, 0, none⟩ 1 1 (encT [(N, X)]) rfl rfl (World.news_of_block (cs := #[.int .i64 (N : Int), .int .i64 X]) (t := 84) (fr := (0, 0)) (heap_alloc_new W _)) (one_encT _) (by omega) ?_; intro w1 hown1 hgr1)
  have hr1 : RowT w1 B (.slice (some ⟨g, 0, none⟩) (l ++ [(N, X)]).length cap) (l ++ [(N, X)]) := by
    unfold RowT
    rw [encT_append, hlen]
    exact hown1
  have ht1 := hr1.tmc
  rw [hlen] at ht1
  refine (HSG.out w1 ht1).mono ?_
  rintro e w2 ⟨he, hb2⟩
  subst he
  go_wp2
  go_ret
  refine ⟨rfl, PwBox.up ?_ hb2⟩
  have h := H.out
  have hg := hr1.lt g rfl
  have l1 : bp < W.heap.size := (Array.getElem?_eq_some_iff.1 h.box).1
  have l2 : bd < W.heap.size := (Array.getElem?_eq_some_iff.1 h.den).1
  have hA : Below W.heap.size W (W.alloc (.cells #[.int .i64 (N : Int), .int .i64 X] 84)) := (Below.refl W.heap.size W).alloc (Nat.le_refl _) _
  have hz := hA.size
  have ht := hr1.take l.length (by rw [hlen]; omega)
  rw [List.take_left'  rfl] at ht
  refine ⟨ht, h.room, ?_, ?_, h.ne1, h.ne2, (h.below.alloc h.hB _).grown hgr1 (Nat.le_trans h.hB hz) (fun k hk => by cases hk; exact hg.1), ?_⟩
  · exact (hgr1.block bp (by simp; omega) (fun e => h.ne1 (Option.some.inj e).symm)).trans ((hA.block _ l1).trans h.box)
  · exact (hgr1.block bd (by simp; omega) (fun e => h.ne2 (Option.some.inj e).symm)).trans ((hA.block _ l2).trans h.den)
  · exact Nat.le_trans (Nat.le_trans h.hB hz) hgr1.size
end Go.Proofs.YtmbcejldifobnaaDoor

namespace Go.Proofs.YtmbcejldifobnaaDoor
open Go.RowKit
theorem PwBox.add {w : World} {B bp bd g cap : Nat} {l r : List (Nat × Int)} {d : Int} {wr W1 w5 : World} (h : PwBox w B bp bd g cap l d wr) (hA : Below wr.heap.size wr W1)
    (hown : w5.ownsRow B 84 2 (.slice (some ⟨g, 0, none⟩) (l.length + r.length) cap) (l.length + r.length) (encT l ++ encT r)) (hgr : W1.grownBy w5 (some g)) (hroom : l.length + r.length < cap) (hne : bp ≠ bd) (hbp : B ≤ bp) :
    PwBox w B bp bd g cap (l ++ r) d (w5.setCell ⟨bp, 0, none⟩ (.slice (some ⟨g, 0, none⟩) (l.length + r.length) cap)) := by
  have hr1 : RowT w5 B (.slice (some ⟨g, 0, none⟩) (l ++ r).length cap) (l ++ r) := by
    unfold RowT
    rw [encT_append, List.length_append]
    exact hown
  have hg := hr1.lt g rfl
  have l1 : bp < wr.heap.size := (Array.getElem?_eq_some_iff.1 h.box).1
  have l2 : bd < wr.heap.size := (Array.getElem?_eq_some_iff.1 h.den).1
  have hz := hA.size
  have hbox : w5.heap[bp]? = _ := (hgr.block bp (by omega) (fun e => h.ne1 (Option.some.inj e).symm)).trans ((hA.block _ l1).trans h.box)
  have hden : w5.heap[bd]? = _ := (hgr.block bd (by omega) (fun e => h.ne2 (Option.some.inj e).symm)).trans ((hA.block _ l2).trans h.den)
  have hlen : (l ++ r).length = l.length + r.length := by simp
  have hb5 : Below B w w5 := (h.below.trans (hA.mono h.hB)).grown hgr (Nat.le_trans h.hB hz) (fun k hk => by cases hk; exact hg.1)
  refine ⟨hr1.keep fun k e => setCell_heap (by cases e; exact h.ne1), by rw [hlen]; exact hroom, ?_, (setCell_heap hne.symm).trans hden, h.ne1, h.ne2, hb5.setCell hbp _, ?_⟩
  · rw [hlen]; exact setCell_one hbox
  · have : (w5.setCell ⟨bp, 0, none⟩ (.slice (some ⟨g, 0, none⟩) (l.length + r.length) cap)).heap.size = w5.heap.size := by simp [World.setCell]
    rw [this]
    exact Nat.le_trans (Nat.le_trans h.hB hz) hgr.size
/-- What Power searches. -/
def PwF (l : List (Nat × Int)) (d : Int) (S : Nat) (m : Int) : Int := if m = 0 then 1 else sgnP (l ++ [(S, d)] ++ [(m.toNat, -d)])
set_option maxRecDepth 100000 in
set_option maxHeartbeats 2000000 in
theorem Power_any (A : Option Addr) (capv : Nat) (l : List (Nat × Int)) (d : Int) (S : Nat) (k : Nat) (w : World) (hv : TmC w w.heap.size (.slice A l.length capv) l) (hA : A = none → capv = 0) (hl : validL l) (hd1 : 1 ≤ d) (hd2 : d ≤ 1000000) (hS1 : 1 ≤ S) (hS2 : S ≤ 1000000000000)
    (hs : ∀ m : Int, 1 ≤ m → m ≤ 1000000000001 → SignOk (l ++ [(S, d)] ++ [(m.toNat, -d)]) k) :
    Calls Tryd.prog 129 #[.int .i64 (S : Int), .slice A l.length capv, .int .i64 d] w fun e w' => SrPost (PwF l d S) 0 e ∧ Below w.heap.size w w' := by
  have hex := fun W (h : TmI W W.heap.size (.slice A l.length capv) (intT l)) => examine_any (.slice A l.length capv) (intT l) W h (by simp [intT]; have := hl.1; omega)
  rw [hl.exam] at hex
  have hlen := hl.1
  have HEX := Lib.hid hex
  have HV := Lib.hid hv
  have HS := Lib.hid hs
  have HA := Lib.hid hA
  clear hex hl hs hv hA
  have hwd : wiB d 1 1000000 = true := by unfold wiB; rw [decide_eq_true hd1, decide_eq_true hd2]; rfl
  have hws : wiB (S : Int) 1 1000000000000 = true := by unfold wiB; rw [decide_eq_true (show (1 : Int) ≤ S by omega), decide_eq_true (show (S : Int) ≤ 1000000000000 by omega)]; rfl
  have HWD := Lib.hid hwd
  have HWS := Lib.hid hws
  clear hwd hws
  have hb0 : Below w.heap.size w (w.alloc (.cells #[.int .i64 d] 2)) := (Below.refl _ _).alloc (Nat.le_refl _) _
  have HB0 := Lib.hid hb0
  go_enter Tryd.func129, Tryd.ntmps129
  go_wp2_with fail
  refine (HEX.out _ (HV.out.up hb0).int).mono ?_
  rintro e w1 ⟨he, hb1⟩
  subst he
  have hd1' : w1.heap[w.heap.size]? = some (.cells #[.int .i64 d] 2 (0, 0)) := (hb1.block _ (by simp)).trans (heap_alloc_new w _)
  have c0 : w1.cell? ⟨w.heap.size, 0, none⟩ = some (.int .i64 d) := Go.Joins.cell_of_block hd1' 0
  have hB1 : Below w.heap.size w w1 := HB0.out.trans (hb1.mono (by simp))
  have HB1 := Lib.hid hB1
  have HD1 := Lib.hid hd1'
  clear hb0 hb1 hd1' hB1
  go_wp2_with fail
  refine (within_any d 1 1000000 _).mono ?_
  rintro e w2 ⟨he, hw2⟩
  subst he
  subst hw2
  rw [HWD.out]
  go_wp2_with fail
  refine (within_any (S : Int) 1 1000000000000 _).mono ?_
  rintro e w2 ⟨he, hw2⟩
  subst he
  subst hw2
  rw [HWS.out]
  obtain ⟨cs, hcs, hmk⟩ := mkT0 (l.length + 2) (by omega) w1
  rw [show ((l.length + 2 : Nat) : Int) = (l.length : Int) + 2 by omega] at hmk
  have HCS := Lib.hid hcs
  clear hcs
  have hp0 : PwBox w w.heap.size (w1.heap.size + 1) w.heap.size w1.heap.size (l.length + 2) [] d ((w1.alloc (.cells cs 84)).alloc (.cells #[.slice (some ⟨w1.heap.size, 0, none⟩) 0 (l.length + 2)] 78)) := by
    have hz := HB1.out.size
    have hA : Below w1.heap.size w1 ((w1.alloc (.cells cs 84)).alloc (.cells #[.slice (some ⟨w1.heap.size, 0, none⟩) 0 (l.length + 2)] 78)) := ((Below.refl w1.heap.size w1).alloc (Nat.le_refl _) _).alloc (by simp) _
    have hbx := heap_alloc_new (w1.alloc (.cells cs 84)) (.cells #[.slice (some ⟨w1.heap.size, 0, none⟩) 0 (l.length + 2)] 78)
    rw [World.size_alloc] at hbx
    have hlt : w.heap.size < w1.heap.size := (Array.getElem?_eq_some_iff.1 HD1.out).1
    refine ⟨?_, by simp, hbx, (hA.block _ hlt).trans HD1.out, by omega, by omega, HB1.out.trans (hA.mono hz), by simp; omega⟩
    have h0 := World.ownsRow_made (base := w.heap.size) (e := 84) (size := 2) w1 cs (l.length + 2) hz (by unfold maxLen; omega) HCS.out
    exact h0.alloc _
  have hlt0 : w.heap.size < w1.heap.size := (Array.getElem?_eq_some_iff.1 HD1.out).1
  have HP0 := Lib.hid hp0
  have hown0 := hp0.row
  unfold RowT at hown0
  have HOWN0 := Lib.hid hown0
  have hnews : ∀ ad, A = some ad → ∀ j u, (encT l)[j]? = some u → ((w1.alloc (.cells cs 84)).alloc (.cells #[.slice (some ⟨w1.heap.size, 0, none⟩) 0 (l.length + 2)] 78)).cell? (ad.add j) = some u := by
    intro ad had
    subst had
    obtain ⟨A', cap', e, -, hh⟩ := HV.out.keep hp0.below
    cases e
    by_cases h0 : l = []
    · subst h0; intro j u hu; simp [encT] at hu
    · obtain ⟨g, o2, e, -, hc2⟩ := hh h0
      cases e
      exact news_T hc2
  have HNW := Lib.hid hnews
  have hnone : A = none → l.length = 0 ∧ capv = 0 := fun h => by
    refine ⟨?_, HA.out h⟩
    subst h
    obtain ⟨A', cap', e, -, hh⟩ := HV.out
    cases e
    by_cases h0 : l = []
    · subst h0; rfl
    · obtain ⟨g, o2, e, -⟩ := hh h0
      cases e
  have HNN := Lib.hid hnone
  obtain ⟨i0, hi0, hz0, hz1, hz2⟩ := info_parts Tryd.infoT
  clear hp0 hown0 hnews hnone HB0 HD1 HEX HWD HWS HB1 HCS
  go_wp2_with (first
    | (at_builtin; refine wpList_append_fits_any _ rfl (.tmp 28) (.tmp 29) 78 rfl w.heap.size 84 i0 2 Tryd.underlying78 hi0 hz1 w1.heap.size 0 (l.length + 2) (encT []) rfl HOWN0.out A l.length capv (encT l) rfl (encT_len l) HNN.out HNW.out (one_encT l) (by omega) ?_; intro w5 hown5 hgr5; have hp1 := PwBox.add (r := l) HP0.out (Below.refl _ _) hown5 hgr5 (by simp) (by omega) (by have := HP0.out.hB; omega); have q0 : w5.heap[w1.heap.size + 1]? = _ := (hgr5.block (w1.heap.size + 1) (by simp) (fun e => absurd (Option.some.inj e) (by omega))).trans HP0.out.box; have q1 := Go.Joins.cell_of_block q0 0; have q2 : w5.frozen? ⟨w1.heap.size + 1, 0, none⟩ = false := (by unfold World.frozen?; rw [q0]; rfl); simp only [List.length_nil, Nat.zero_add, List.nil_append] at hp1 ⊢; have k0 := Go.Joins.cell_of_block hp1.box 0; have k1 := Go.Joins.cell_of_block hp1.den 0; have HP1 := Lib.hid hp1; clear q0 hp1)
    | (at_builtin; obtain ⟨W2, hW2⟩ : ∃ W2, W2 = w5.setCell ⟨w1.heap.size + 1, 0, none⟩ (.slice (some ⟨w1.heap.size, 0, none⟩) l.length (l.length + 2)) := ⟨_, rfl⟩; have hp2 := HP1.out; have hsz : w5.heap.size = W2.heap.size := (by rw [hW2, size_setCell']); rw [← hW2] at hp2 ⊢; rw [hsz]; have hownB := hp2.row.up (belA W2 (.cells #[.int .i64 (S : Int), .int .i64 d] 84)); unfold RowT at hownB; refine wpList_append_fits _ rfl (.tmp 31) (.tmp 35) 78 rfl w.heap.size 84 i0 2 Tryd.underlying78 hi0 hz1 w1.heap.size l.length (l.length + 2) (encT l) rfl hownB ⟨W2.heap.size, 0, none⟩ 1 1 (encT [(S, d)]) rfl rfl (World.news_of_block (cs := #[.int .i64 (S : Int), .int .i64 d]) (t := 84) (fr := (0, 0)) (heap_alloc_new W2 _)) (one_encT _) (by omega) ?_; intro w6 hown6 hgr6; have hp3 := PwBox.add (r := [(S, d)]) hp2 (belA W2 (.cells #[.int .i64 (S : Int), .int .i64 d] 84)) hown6 hgr6 (by simp) (by omega) (by have := HP0.out.hB; omega); have hbp : w1.heap.size + 1 < W2.heap.size := (Array.getElem?_eq_some_iff.1 hp2.box).1; have r0 : w6.heap[w1.heap.size + 1]? = _ := (hgr6.block (w1.heap.size + 1) (by simp; omega) (fun e => absurd (Option.some.inj e) (by omega))).trans (((belA W2 (.cells #[.int .i64 (S : Int), .int .i64 d] 84)).block _ hbp).trans hp2.box); have r1 := Go.Joins.cell_of_block r0 0; have r2 : w6.frozen? ⟨w1.heap.size + 1, 0, none⟩ = false := (by unfold World.frozen?; rw [r0]; rfl); have HP3 := Lib.hid hp3; clear hp2 hp3 r0 hW2))
  have hcl : ∀ (m : Int) (W : World), 0 ≤ m → m ≤ 1000000000001 → PwBox w w.heap.size (w1.heap.size + 1) w.heap.size w1.heap.size (l.length + 2) (l ++ [(S, d)]) d W → Calls Tryd.prog 165 #[.int .i64 m, .pointer (some ⟨w1.heap.size + 1, 0, none⟩), .pointer (some ⟨w.heap.size, 0, none⟩)] W fun e W' => e = .returned (.int .i64 (PwF l d S m)) ∧ PwBox w w.heap.size (w1.heap.size + 1) w.heap.size w1.heap.size (l.length + 2) (l ++ [(S, d)]) d W' := fun m W m1 m2 h => by
    by_cases h0 : m = 0
    · subst h0
      exact powerC0 _ _ _ _ _ _ _ _ _ h
    · have e : PwF l d S m = sgnP (l ++ [(S, d)] ++ [(m.toNat, -d)]) := by unfold PwF; rw [if_neg h0]
      rw [e]
      exact powerC _ _ _ _ _ _ _ _ m k W h (by omega) m2 hd1 hd2 (HS.out m (by omega) m2)
  have hsr := search_power (.pointer (some ⟨w1.heap.size + 1, 0, none⟩)) (.pointer (some ⟨w.heap.size, 0, none⟩)) (PwBox w w.heap.size (w1.heap.size + 1) w.heap.size w1.heap.size (l.length + 2) (l ++ [(S, d)]) d) (PwF l d S) 0 _ (by omega) (by omega) (fun W n h => h.drewN n) hcl HP3.out
  have HSR := Lib.hid hsr
  clear hsr hcl k0 k1 r1 r2 HP3 HP1 q1 q2 hown5 hown6 hgr5 hgr6 hownB
  refine HSR.out.mono ?_
  rintro e w7 ⟨hsp, hI⟩
  have HI := Lib.hid hI.below
  clear hI
  rcases hsp with ⟨hc, he⟩ | ⟨hc, m, m1, m2, m3, m4, he⟩
  · have HC := Lib.hid hc
    clear hc
    subst he
    go_wp2
    go_ret3
    exact ⟨.inl ⟨HC.out, rfl⟩, HI.out⟩
  · have HC := Lib.hid hc
    have H3 := Lib.hid m3
    have H4 := Lib.hid m4
    clear hc m3 m4
    subst he
    go_wp2
    go_ret3
    exact ⟨.inr ⟨HC.out, m, m1, m2, H3.out, H4.out, rfl⟩, HI.out⟩
end Go.Proofs.YtmbcejldifobnaaDoor

namespace Go.Proofs.YtmbcejldifobnaaDoor.Pc
open Go.RowKit Tp
theorem pow_ok {l : List (Nat × Int)} (h : validL l) {d : Int} {S : Nat} (hd1 : 1 ≤ d) (hd2 : d ≤ 1000000) (hS1 : 1 ≤ S) (hS2 : S ≤ 1000000000000) {m : Int} (h1 : 1 ≤ m) (h2 : m ≤ 1000000000001) : SignOk (l ++ [(S, d)] ++ [(m.toNat, -d)]) 34 := by
  obtain ⟨hl, hx⟩ := h
  have hall : ∀ x ∈ l ++ [(S, d)] ++ [(m.toNat, -d)], 1 ≤ x.1 ∧ x.1 ≤ 1000000000001 ∧ x.2.natAbs ≤ 1000000000 := fun x hm => by
    simp only [List.mem_append, List.mem_singleton] at hm
    rcases hm with (hm | rfl) | rfl
    · have := hx x hm; omega
    · simp only; omega
    · simp only; omega
  have hlen : (l ++ [(S, d)] ++ [(m.toNat, -d)]).length ≤ 18 := by simp; omega
  generalize l ++ [(S, d)] ++ [(m.toNat, -d)] = L at *
  obtain ⟨s1, s2⟩ := sums_le (N := 1000000000001) (e := 1000000000) (w := 39) (by decide) hall
  have h3 : nA L ≤ 18000000000 := Nat.le_trans s1 (Nat.le_trans (Nat.mul_le_mul_right _ hlen) (by decide))
  have h4 : wA L ≤ 702000000000 := Nat.le_trans s2 (Nat.le_trans (Nat.mul_le_mul_right _ hlen) (by decide))
  refine SignOk.of (fun x hm => ⟨(hall x hm).1, by have := (hall x hm).2.1; omega⟩) (by omega) (by omega) (by omega) (by omega) ?_
  have : (64 : Nat) * 2 ^ 34 - 2 = 1099511627774 := by decide
  omega
theorem szIv (a b : Int) : (Tryd.prog.info? 55).map (·.size) = some ([.int .i64 a, .int .i64 b] : List Value).length := by show _ = some 2; kernel_rfl
theorem load_iv {w : World} {g : Nat} {a b : Int} (h0 : w.cell? ⟨g, 0, none⟩ = some (.int .i64 a)) (h1 : w.cell? ⟨g, 1, none⟩ = some (.int .i64 b)) : (loadVar 55 ⟨g, 0, none⟩).run Tryd.prog w = .ok (.agg #[.int .i64 a, .int .i64 b]) w :=
  run_loadVar_mid w g 0 55 [.int .i64 a, .int .i64 b] _ (fun j u hu => by
    match j, hu with
    | 0, hu => cases hu; exact h0
    | 1, hu => cases hu; exact h1) Tryd.underlying55 rfl (szIv a b)
/-- The span of a root: the floor, and the floor of the same or one more. -/
def SpanIs (F : Int → Int) (m n : Int) : Prop := 0 ≤ m ∧ m ≤ 1000000000000 ∧ 0 ≤ F m ∧ F (m + 1) < 0 ∧ ((F m = 0 ∧ n = m) ∨ (F m ≠ 0 ∧ n = m + 1))
set_option maxRecDepth 100000 in
set_option maxHeartbeats 2000000 in
theorem span_any (A : Option Addr) (capv : Nat) (l : List (Nat × Int)) (d : Int) (S : Nat) (w : World) (hv : TmC w w.heap.size (.slice A l.length capv) l) (hA : A = none → capv = 0) (hl : validL l) (hd1 : 1 ≤ d) (hd2 : d ≤ 1000000) (hS1 : 1 ≤ S) (hS2 : S ≤ 1000000000000) (hno : PwF l d S 1000000000001 < 0) :
    Calls Tryd.prog 74 #[.int .i64 (S : Int), .int .i64 d, .slice A l.length capv] w fun e w' => (∃ m n, e = .returned (.agg #[.int .i64 m, .int .i64 n]) ∧ SpanIs (PwF l d S) m n) ∧ Below w.heap.size w w' := by
  have hpw := fun W (h : TmC W W.heap.size (.slice A l.length capv) l) => Power_any A capv l d S 34 W h hA hl hd1 hd2 hS1 hS2 (fun m h1 h2 => pow_ok hl hd1 hd2 hS1 hS2 h1 h2)
  have h00 : PwF l d S 0 = 1 := if_pos rfl
  have HPW := Lib.hid hpw
  have HV := Lib.hid hv
  have HNO := Lib.hid hno
  have H00 := Lib.hid h00
  have hb0 := belB w (.cells #[.int .i64 0, .int .i64 0] 55)
  have HB0 := Lib.hid hb0
  have hr0 := RowV.of_alloc w 55 [.int .i64 0, .int .i64 0]
  have HR0 := Lib.hid hr0
  clear hpw hv hno h00 hb0 hr0 hl hA
  generalize PwF l d S = F at *
  go_enter Tryd.func74, Tryd.ntmps74
  go_wp2_with fail
  refine (HPW.out _ (HV.out.up HB0.out)).mono ?_
  rintro e w1 ⟨hsr, hb1⟩
  have hr1 := HR0.out.up hb1
  have hbw := HB0.out.trans (hb1.mono HB0.out.size)
  have c0 := RowV.c0 hr1
  have c1 := RowV.c1 hr1
  have z0 := RowV.z (i := 0) hr1
  have z1 := RowV.z (i := 1) hr1
  have BW := Lib.hid hbw
  rcases hsr with ⟨hbad, -⟩ | ⟨-, m, hm0, hm1, hm2, hm3, he⟩
  · exfalso
    have h1 := HNO.out
    have h2 := H00.out
    omega
  · subst he
    have hm4 : IntKind.i64.wrap (m + 1) = m + 1 := IntWalk.i64_in _ (by omega)
    clear hr1 hbw hb1 HPW HV HNO H00
    by_cases hz : F m = 0
    · have hb : (F m == 0) = true := by simp [hz]
      rw [hb]
      clear hb
      go_wp2
      refine bodyPost_ret (v := .agg #[.int .i64 m, .int .i64 m]) (results_one rfl rfl (load_iv ?_ ?_)) rfl ⟨⟨m, m, rfl, hm0, hm1, hm2, hm3, .inl ⟨hz, rfl⟩⟩, (BW.out.setCell (by show w.heap.size ≤ w.heap.size; omega) _).setCell (by show w.heap.size ≤ w.heap.size; omega) _⟩
      · rw [World.cell?_setCell_other _ _ _ _ (by simp), World.cell?_setCell_same _ _ _ c0]
      · exact World.cell?_setCell_same _ _ _ ((World.cell?_setCell_other _ _ _ _ (by simp)).trans c1)
    · have hb : (F m == 0) = false := by simp [hz]
      rw [hb]
      clear hb
      go_wp2
      refine bodyPost_ret (v := .agg #[.int .i64 m, .int .i64 (m + 1)]) (results_one rfl rfl (load_iv ?_ ?_)) rfl ⟨⟨m, m + 1, rfl, hm0, hm1, hm2, hm3, .inr ⟨hz, rfl⟩⟩, (BW.out.setCell (by show w.heap.size ≤ w.heap.size; omega) _).setCell (by show w.heap.size ≤ w.heap.size; omega) _⟩
      · rw [World.cell?_setCell_other _ _ _ _ (by simp), World.cell?_setCell_same _ _ _ c0]
      · exact World.cell?_setCell_same _ _ _ ((World.cell?_setCell_other _ _ _ _ (by simp)).trans c1)
end Go.Proofs.YtmbcejldifobnaaDoor.Pc

namespace Go.Proofs.YtmbcejldifobnaaDoor.Pc
open Go.RowKit Tp
def tOk (t : Int) : Bool := decide (-20000 ≤ t) && decide (t ≤ 50000)
theorem tOk_iff {t : Int} : tOk t = true ↔ -20000 ≤ t ∧ t ≤ 50000 := by unfold tOk; simp
theorem isTemp_any (n : Int) (w : World) : Calls Tryd.prog 72 #[.int .i64 n] w fun e w' => e = .returned (.bool (tOk n)) ∧ w = w' := by
  have hc : tOk n = (decide (-20000 ≤ n) && decide (n ≤ 50000)) := rfl
  have HC := Lib.hid hc
  clear hc
  generalize tOk n = c at *
  by_cases h1 : -20000 ≤ n
  · by_cases h2 : n ≤ 50000
    · obtain rfl : c = true := by rw [HC.out]; simp [h1, h2]
      go_enter Tryd.func72, Tryd.ntmps72
      go_wp2
      go_ret
      exact ⟨rfl, rfl⟩
    · obtain rfl : c = false := by rw [HC.out]; simp [h2]
      go_enter Tryd.func72, Tryd.ntmps72
      go_wp2
      go_ret
      exact ⟨rfl, rfl⟩
  · obtain rfl : c = false := by rw [HC.out]; simp [h1]
    go_enter Tryd.func72, Tryd.ntmps72
    go_wp2
    go_ret
    exact ⟨rfl, rfl⟩
end Go.Proofs.YtmbcejldifobnaaDoor.Pc

namespace Go.Proofs.YtmbcejldifobnaaDoor.Pc
open Go.RowKit Tp
def fastL (a b : Int) : List (Nat × Int) := [((273150 + b).toNat, 1), ((273150 + a).toNat, -1)]
theorem fastL_ok {a b : Int} (ha : -20000 ≤ a) (ha2 : a ≤ 50000) (hb : -20000 ≤ b) (hb2 : b ≤ 50000) : ∀ x ∈ fastL a b, 1 ≤ x.1 ∧ x.1 ≤ 1000000000000 ∧ x.2.natAbs ≤ 200000 := fun x hx => by
  simp only [fastL, List.mem_cons, List.not_mem_nil, or_false] at hx
  rcases hx with rfl | rfl
  · simp only; omega
  · simp only; omega
end Go.Proofs.YtmbcejldifobnaaDoor.Pc

namespace Go.Proofs.YtmbcejldifobnaaDoor.Pc
open Go.RowKit Tp
theorem speed_no {t : Int} (h1 : -20000 ≤ t) (h2 : t ≤ 50000) : PwF (fastL 0 t) 2 331300000 1000000000001 < 0 := by
  obtain ⟨n, hn⟩ : ∃ n : Nat, 273150 + t = (n : Int) := ⟨(273150 + t).toNat, by omega⟩
  have hn2 : n ≤ 323150 := by omega
  unfold PwF fastL
  rw [if_neg (by decide), hn]
  simp only [Int.toNat_natCast, List.cons_append, List.nil_append]
  rw [sgn_lt]
  show n ^ 1 * (273150 ^ 0 * (331300000 ^ 2 * (1000000000001 ^ 0 * 1))) < n ^ 0 * (273150 ^ 1 * (331300000 ^ 0 * (1000000000001 ^ 2 * 1)))
  simp only [Nat.pow_one, Nat.pow_zero, Nat.one_mul, Nat.mul_one]
  omega
def SpeedP (w : World) (t : Int) (e : Ending) (w' : World) : Prop :=
  ((tOk t = false ∧ e = .returned (.tuple #[.agg #[.int .i64 0, .int .i64 0], .int .i64 2])) ∨ (tOk t = true ∧ ∃ m n, SpanIs (PwF (fastL 0 t) 2 331300000) m n ∧ e = .returned (.tuple #[.agg #[.int .i64 m, .int .i64 n], .int .i64 0]))) ∧ Below w.heap.size w w'
set_option maxRecDepth 100000 in
set_option maxHeartbeats 2000000 in
theorem Speed_any (t : Int) (w : World) : Calls Tryd.prog 31 #[.int .i64 t] w (SpeedP w t) := by
  have HR := Lib.hid (RowV.of_alloc w 55 [.int .i64 0, .int .i64 0])
  have HB := Lib.hid (belB w (.cells #[.int .i64 0, .int .i64 0] 55))
  cases ht : tOk t
  case' false =>
    have hit := fun W => isTemp_any t W
    rw [ht] at hit
    have HIT := Lib.hid hit
    have hP : ∀ w' : World, Below w.heap.size w w' → SpeedP w t (.returned (.tuple #[.agg #[.int .i64 0, .int .i64 0], .int .i64 2])) w' := fun w' h => ⟨.inl ⟨ht, rfl⟩, h⟩
    have HP := Lib.hid hP
    clear hit hP ht
    generalize SpeedP w t = Post at *
    have c0 := RowV.c0 HR.out
    have c1 := RowV.c1 HR.out
    have z0 := RowV.z (i := 0) HR.out
    have z1 := RowV.z (i := 1) HR.out
    go_enter Tryd.func31, Tryd.ntmps31
    go_wp2_with fail
    refine (HIT.out _).mono ?_
    rintro e w1 ⟨he, hw⟩
    subst he
    subst hw
    go_wp2
    exact bodyPost_ret (v := .tuple #[.agg #[.int .i64 0, .int .i64 0], .int .i64 2]) (Tp.results_cell_tmp (a := 2) (b := 3) rfl rfl (load_iv c0 c1)) rfl (HP.out _ HB.out)
  case' true =>
    obtain ⟨h1, h2⟩ := tOk_iff.1 ht
    have hit := fun W => isTemp_any t W
    rw [ht] at hit
    have HIT := Lib.hid hit
    have hfa := fun W => faster_any 0 t W (by omega) (by omega) h1 h2
    have hvl : validL (fastL 0 t) := ⟨by simp [fastL], fun x hx => by have := fastL_ok (show (-20000 : Int) ≤ 0 by omega) (by omega) h1 h2 x hx; omega⟩
    have hsp := fun A capv W (h : TmC W W.heap.size (.slice A (fastL 0 t).length capv) (fastL 0 t)) hA => span_any A capv (fastL 0 t) 2 331300000 W h hA hvl (by omega) (by omega) (by omega) (by omega) (speed_no h1 h2)
    have hP : ∀ (w' : World) m n, Below w.heap.size w w' → SpanIs (PwF (fastL 0 t) 2 331300000) m n → SpeedP w t (.returned (.tuple #[.agg #[.int .i64 m, .int .i64 n], .int .i64 0])) w' := fun w' m n h hs => ⟨.inr ⟨ht, m, n, hs, rfl⟩, h⟩
    have HFA := Lib.hid hfa
    have HSP := Lib.hid hsp
    have HP := Lib.hid hP
    clear hit hP ht hfa hsp hvl h1 h2
    generalize SpeedP w t = Post at *
    go_enter Tryd.func31, Tryd.ntmps31
    go_wp2_with fail
    refine (HIT.out _).mono ?_
    rintro e w1 ⟨he, hw⟩
    subst he
    subst hw
    go_wp2_with fail
    refine (HFA.out _).mono ?_
    rintro e w2 ⟨⟨V, he, v, rfl, hrow⟩, hb2⟩
    subst he
    obtain ⟨bA, capA, rfl, hcA, hmA, hfA⟩ := hrow.form
    have hA0 : bA = none → capA = 0 := fun e => by
      rcases hfA with ⟨-, -, h⟩ | ⟨g2, h, -⟩
      · exact h
      · rw [e] at h; cases h
    have htm := (hrow.up (belB w2 (.cells #[.slice bA (fastL 0 t).length capA, .int .i64 2] 113))).tmc
    have HTM := Lib.hid htm
    have HR2 := Lib.hid ((HR.out.up hb2).alloc (.cells #[.slice bA (fastL 0 t).length capA, .int .i64 2] 113))
    have B2 := Lib.hid ((HB.out.trans (hb2.mono HB.out.size)).alloc (HB.out.trans (hb2.mono HB.out.size)).size (.cells #[.slice bA (fastL 0 t).length capA, .int .i64 2] 113))
    clear hrow htm hb2 hfA HFA HB HR
    go_wp2_with fail
    refine (HSP.out _ _ _ HTM.out hA0).mono ?_
    rintro e w3 ⟨⟨m, n, he, hm⟩, hb3⟩
    subst he
    have hr3 := HR2.out.up hb3
    have c0 := RowV.c0 hr3
    have c1 := RowV.c1 hr3
    have z0 := RowV.z (i := 0) hr3
    have z1 := RowV.z (i := 1) hr3
    have B3 := Lib.hid (B2.out.trans (hb3.mono B2.out.size))
    have HM := Lib.hid hm
    clear hm hb3 hr3
    go_wp2
    refine bodyPost_ret (v := .tuple #[.agg #[.int .i64 m, .int .i64 n], .int .i64 0]) (Tp.results_cell_tmp (a := 2) (b := 3) rfl rfl (load_iv ?_ ?_)) rfl (HP.out _ m n ((B3.out.setCell (by show w.heap.size ≤ w.heap.size; omega) _).setCell (by show w.heap.size ≤ w.heap.size; omega) _) HM.out)
    · rw [World.cell?_setCell_other _ _ _ _ (by simp), World.cell?_setCell_same _ _ _ c0]
    · exact World.cell?_setCell_same _ _ _ ((World.cell?_setCell_other _ _ _ _ (by simp)).trans c1)
end Go.Proofs.YtmbcejldifobnaaDoor.Pc

namespace Go.Proofs.YtmbcejldifobnaaDoor.Ln
open Go.RowKit Tp Pc Sp
def spK (t : Int) : Int := (273150 + t) * 109759690000000000
theorem pw_speed {t m : Int} (h1 : -20000 ≤ t) (h2 : t ≤ 50000) (hm : 0 ≤ m) : (0 ≤ PwF (fastL 0 t) 2 331300000 m ↔ 273150 * (m * m) ≤ spK t) ∧ (PwF (fastL 0 t) 2 331300000 m = 0 ↔ 273150 * (m * m) = spK t) := by
  obtain ⟨n, hn⟩ : ∃ n : Nat, 273150 + t = (n : Int) := ⟨(273150 + t).toNat, by omega⟩
  obtain ⟨k, rfl⟩ : ∃ k : Nat, m = (k : Int) := ⟨m.toNat, by omega⟩
  have hn1 : 1 ≤ n := by omega
  unfold PwF fastL spK
  by_cases h0 : (k : Int) = 0
  · rw [if_pos h0, h0, hn]
    constructor
    · constructor
      · intro _; omega
      · intro _; omega
    · constructor
      · intro h; cases h
      · intro h; omega
  · rw [if_neg h0, hn]
    simp only [Int.toNat_natCast, List.cons_append, List.nil_append]
    have eu : upP [(n, 1), ((273150 + (0 : Int)).toNat, -1), (331300000, 2), (k, -2)] = n * 109759690000000000 := by
      show n ^ 1 * (273150 ^ 0 * (331300000 ^ 2 * (k ^ 0 * 1))) = _
      simp only [Nat.pow_one, Nat.pow_zero, Nat.one_mul, Nat.mul_one]
    have ed : dnP [(n, 1), ((273150 + (0 : Int)).toNat, -1), (331300000, 2), (k, -2)] = 273150 * (k * k) := by
      show n ^ 0 * (273150 ^ 1 * (331300000 ^ 0 * (k ^ 2 * 1))) = _
      simp only [Nat.pow_one, Nat.pow_zero, Nat.one_mul, Nat.mul_one, Nat.pow_succ]
    unfold sgnP
    rw [eu, ed]
    have e1 : (273150 : Int) * ((k : Int) * (k : Int)) = ((273150 * (k * k) : Nat) : Int) := by simp
    have e2 : (n : Int) * 109759690000000000 = ((n * 109759690000000000 : Nat) : Int) := by simp
    rw [e1, e2]
    generalize 273150 * (k * k) = x
    generalize n * 109759690000000000 = y
    constructor
    · constructor
      · intro h
        split at h
        · omega
        · split at h
          · omega
          · exact absurd h (by decide)
      · intro h
        split
        · omega
        · split <;> omega
    · constructor
      · intro h
        split at h
        · omega
        · split at h <;> exact absurd h (by decide)
      · intro h; rw [if_pos (by omega)]
/-- The span of the speed, in whole numbers. -/
def SpNum (t m n : Int) : Prop := 0 ≤ m ∧ 273150 * (m * m) ≤ spK t ∧ spK t < 273150 * ((m + 1) * (m + 1)) ∧ ((273150 * (m * m) = spK t ∧ n = m) ∨ (¬ 273150 * (m * m) = spK t ∧ n = m + 1))
theorem sp_num {t m n : Int} (h1 : -20000 ≤ t) (h2 : t ≤ 50000) (h : SpanIs (PwF (fastL 0 t) 2 331300000) m n) : SpNum t m n := by
  obtain ⟨a, b, c, d, e⟩ := h
  obtain ⟨p1, p2⟩ := pw_speed h1 h2 a
  obtain ⟨q1, -⟩ := pw_speed h1 h2 (show 0 ≤ m + 1 by omega)
  refine ⟨a, p1.1 c, Int.not_le.1 (fun g => by have := q1.2 g; omega), ?_⟩
  rcases e with ⟨e, f⟩ | ⟨e, f⟩
  · exact .inl ⟨p2.1 e, f⟩
  · exact .inr ⟨fun g => e (p2.2 g), f⟩
theorem sq_le {x y : Int} (hx : 0 ≤ x) (h : x ≤ y) : x * x ≤ y * y := Int.mul_le_mul h h hx (by omega)
theorem sp_mono {t u m n p q : Int} (h : SpNum t m n) (g : SpNum u p q) (ht : t ≤ u) : m ≤ p ∧ n ≤ q := by
  obtain ⟨a, b, c, d⟩ := h
  obtain ⟨a', b', c', d'⟩ := g
  have hk : spK t ≤ spK u := by unfold spK; omega
  have h1 : m ≤ p := by
    refine Int.le_of_not_gt fun hh => ?_
    have := sq_le (show 0 ≤ p + 1 by omega) (show p + 1 ≤ m by omega)
    omega
  refine ⟨h1, ?_⟩
  rcases Int.lt_or_eq_of_le h1 with h2 | h2
  · omega
  · subst h2
    rcases d with ⟨d, e⟩ | ⟨d, e⟩ <;> rcases d' with ⟨d', e'⟩ | ⟨d', e'⟩ <;> omega
theorem sp_bd {t m n : Int} (h2 : t ≤ 50000) (h : SpNum t m n) : 0 ≤ m ∧ m ≤ n ∧ n ≤ 400000001 := by
  obtain ⟨a, b, c, d⟩ := h
  have : m ≤ 400000000 := by
    refine Int.le_of_not_gt fun hh => ?_
    have := sq_le (show 0 ≤ (400000001 : Int) by omega) (show 400000001 ≤ m by omega)
    have hk : spK t ≤ 323150 * 109759690000000000 := by unfold spK; omega
    omega
  omega
noncomputable def spdE (t : Int) : (Int × Int) × Int := if tOk t = true then (Classical.epsilon (fun p : Int × Int => SpNum t p.1 p.2), 0) else ((0, 0), 2)
theorem spd_of {t m n : Int} (ht : tOk t = true) (h : SpNum t m n) : spdE t = ((m, n), 0) := by
  have hs : SpNum t (Classical.epsilon (fun p : Int × Int => SpNum t p.1 p.2)).1 (Classical.epsilon (fun p : Int × Int => SpNum t p.1 p.2)).2 := Classical.epsilon_spec (p := fun p : Int × Int => SpNum t p.1 p.2) ⟨(m, n), h⟩
  have e1 := sp_mono h hs (Int.le_refl _)
  have e2 := sp_mono hs h (Int.le_refl _)
  unfold spdE
  rw [if_pos ht]
  exact Prod.ext (Prod.ext (Int.le_antisymm e2.1 e1.1) (Int.le_antisymm e2.2 e1.2)) rfl
theorem sp_zero : SpNum 0 331300000 331300000 := by unfold SpNum spK; decide
theorem spd_zero : spdE 0 = ((331300000, 331300000), 0) := spd_of rfl sp_zero
/-- There is a span of the speed at each valid temperature. -/
theorem sp_ex {t : Int} (h1 : -20000 ≤ t) : ∃ m n, SpNum t m n := by
  have key : ∀ K : Nat, ∃ r : Nat, 273150 * (r * r) ≤ K ∧ K < 273150 * ((r + 1) * (r + 1)) := fun K => by
    induction K with
    | zero => exact ⟨0, by omega, by omega⟩
    | succ K ih =>
      obtain ⟨r, a, b⟩ := ih
      by_cases hc : 273150 * ((r + 1) * (r + 1)) ≤ K + 1
      · refine ⟨r + 1, hc, ?_⟩
        have : (r + 1 + 1) * (r + 1 + 1) = (r + 1) * (r + 1) + 2 * r + 3 := by grind
        omega
      · exact ⟨r, by omega, by omega⟩
  obtain ⟨r, a, b⟩ := key (spK t).toNat
  have e : ((spK t).toNat : Int) = spK t := Int.toNat_of_nonneg (by unfold spK; omega)
  have a' : 273150 * ((r : Int) * (r : Int)) ≤ spK t := by
    rw [← e]; have h := Int.ofNat_le.2 a; rw [Int.natCast_mul, Int.natCast_mul] at h; exact h
  have b' : spK t < 273150 * (((r : Int) + 1) * ((r : Int) + 1)) := by
    rw [← e]; have h := Int.ofNat_lt.2 b; rw [Int.natCast_mul, Int.natCast_mul, Int.natCast_add] at h; exact h
  refine ⟨(r : Int), if 273150 * ((r : Int) * (r : Int)) = spK t then (r : Int) else (r : Int) + 1, Int.natCast_nonneg _, a', b', ?_⟩
  by_cases h : 273150 * ((r : Int) * (r : Int)) = spK t
  · exact .inl ⟨h, if_pos h⟩
  · exact .inr ⟨h, if_neg h⟩
theorem spd_ok (t : Int) : SpOk (spdE t) := by
  by_cases ht : tOk t = true
  · obtain ⟨h1, h2⟩ := tOk_iff.1 ht
    obtain ⟨m, n, h⟩ := sp_ex h1
    obtain ⟨a, b, c⟩ := sp_bd h2 h
    exact .inr ⟨m, n, spd_of ht h, a, b, c⟩
  · left; unfold spdE; rw [if_neg ht]
theorem spd_le {t u : Int} (h : t ≤ u) : SpLe (spdE t) (spdE u) := by
  intro h1 h2
  have ht : tOk t = true := by
    cases e : tOk t
    · unfold spdE at h1; rw [e] at h1; cases h1
    · rfl
  have hu : tOk u = true := by
    cases e : tOk u
    · unfold spdE at h2; rw [e] at h2; cases h2
    · rfl
  obtain ⟨m, n, g⟩ := sp_ex (tOk_iff.1 ht).1
  obtain ⟨p, q, g'⟩ := sp_ex (tOk_iff.1 hu).1
  rw [spd_of ht g, spd_of hu g']
  exact sp_mono g g' h
/-- Speed of pitch, in these words. -/
theorem Speed_val (t : Int) (w : World) : Calls Tryd.prog 31 #[.int .i64 t] w fun e w' => e = .returned (.tuple #[.agg #[.int .i64 (spdE t).1.1, .int .i64 (spdE t).1.2], .int .i64 (spdE t).2]) ∧ Below w.heap.size w w' := by
  refine (Speed_any t w).mono ?_
  rintro e w' ⟨h, hb⟩
  refine ⟨?_, hb⟩
  rcases h with ⟨ht, rfl⟩ | ⟨ht, m, n, hs, rfl⟩
  · have : spdE t = ((0, 0), 2) := by unfold spdE; rw [ht]; rfl
    rw [this]
  · obtain ⟨h1, h2⟩ := tOk_iff.1 ht
    rw [spd_of ht (sp_num h1 h2 hs)]
end Go.Proofs.YtmbcejldifobnaaDoor.Ln

namespace Go.Proofs.YtmbcejldifobnaaDoor.Ln
open Go.RowKit Tp Sp Pc
theorem inB_no {n lo hi : Int} (h : inB n lo hi = false) : ¬ (lo ≤ n ∧ n ≤ hi) := fun g => by rw [inB_iff.2 g] at h; cases h
def okC (c : (Int × Int) × Int) : Prop := I64 c.1.1 ∧ I64 c.1.2
theorem okC_zero (e : Int) : okC ((0, 0), e) := ⟨by unfold I64; show (-9223372036854775808 : Int) ≤ 0 ∧ (0 : Int) ≤ 9223372036854775807; decide, by unfold I64; show (-9223372036854775808 : Int) ≤ 0 ∧ (0 : Int) ≤ 9223372036854775807; decide⟩
theorem ok_span (lo hi : Int) : okC (spanW lo hi) := by
  unfold spanW
  split
  · rename_i h
    rw [Bool.and_eq_true] at h
    exact ⟨okI h.1, okI h.2⟩
  · exact okC_zero _
theorem ok_mul (a b : Int × Int) : okC (mulW a b) := by
  unfold mulW; split
  · exact ok_span _ _
  · exact okC_zero _
theorem ok_add (a b : Int × Int) : okC (addW a b) := by
  unfold addW; split
  · exact ok_span _ _
  · exact okC_zero _
theorem ok_scale (n d : Int) (a : Int × Int) : okC (scaleE a n d) := by
  unfold scaleE; split
  · unfold scaleW; split
    · exact ok_span _ _
    · exact okC_zero _
  · exact okC_zero _
theorem ok_with {F : Int × Int → Int × Int → (Int × Int) × Int} (h : ∀ a b, okC (F a b)) (c d : (Int × Int) × Int) : okC (withE F c d) := by
  unfold withE; split
  · split
    · exact h _ _
    · exact okC_zero _
  · exact okC_zero _
theorem ok_thru {F : Int × Int → (Int × Int) × Int} (h : ∀ a, okC (F a)) {c : (Int × Int) × Int} (hc : okC c) : okC (thruE F c) := by
  unfold thruE; split
  · exact h _
  · exact hc
theorem ok_lim {c : (Int × Int) × Int} (hc : okC c) (l m e : Int) : okC (limE c l m e) := by
  unfold limE; split
  · exact okC_zero _
  · exact hc
theorem okC_small {x y e : Int} (h1 : -9000000000000000000 ≤ x) (h2 : x ≤ 9000000000000000000) (h3 : -9000000000000000000 ≤ y) (h4 : y ≤ 9000000000000000000) : okC ((x, y), e) := ⟨by unfold I64; show -9223372036854775808 ≤ x ∧ x ≤ _; omega, by unfold I64; show -9223372036854775808 ≤ y ∧ y ≤ _; omega⟩
theorem okC.i3 {c : (Int × Int) × Int} (h : okC c) {n d : Int} (h1 : -9000000000000000000 ≤ n) (h2 : n ≤ 9000000000000000000) (h3 : -9000000000000000000 ≤ d) (h4 : d ≤ 9000000000000000000) : I3 c.1.1 c.1.2 n d := ⟨h.1, h.2, by unfold I64; omega, by unfold I64; omega⟩
theorem okC.two {c d : (Int × Int) × Int} (h : okC c) (g : okC d) : I3 c.1.1 c.1.2 d.1.1 d.1.2 := ⟨h.1, h.2, g.1, g.2⟩
theorem ok_speed (t : Int) : okC (spdE t) := by
  rcases spd_ok t with h | ⟨wl, wh, h, a, b, c⟩
  · rw [h]; exact okC_zero _
  · rw [h]; exact okC_small (by omega) (by omega) (by omega) (by omega)
theorem ok_corr {k B T M C : Int} (h : bdB k B T M C = true) : okC (corrE k B T M C) := by
  obtain ⟨cl, ch, e, a, b, c⟩ := corr_eq h
  rw [e]; exact okC_small (by omega) (by omega) (by omega) (by omega)
theorem ok_mouth {k B T M C : Int} (h : bdB k B T M C = true) : okC (mouthE B M C) := by
  obtain ⟨_, ⟨h1, h2⟩, _, ⟨h3, h4⟩, h5, h6⟩ := bdB_iff.1 h
  obtain ⟨lo, hi, -, -, -, -, -, e1, m1, u1⟩ := mouth_eq h1 h2 h3 h4 h5 h6
  obtain ⟨a1, a2, a3⟩ := m1
  rw [e1]
  exact ⟨by unfold I64; simp only [] at a1 a2 a3 ⊢; omega, by unfold I64; simp only [] at a1 a2 a3 ⊢; omega⟩
theorem ok_end {k B T M C : Int} (h : bdB k B T M C = true) : okC (endE k T) := by
  obtain ⟨t1, t2⟩ := bd_top h
  obtain ⟨e2, m2, u2⟩ := end_eq (k := k) (show 0 ≤ T by omega) t2
  obtain ⟨a1, a2, a3⟩ := m2
  rw [e2]
  exact ⟨by unfold I64; simp only [] at a1 a2 a3 ⊢; omega, by unfold I64; simp only [] at a1 a2 a3 ⊢; omega⟩
theorem ok_root {n : Int} (h : 0 ≤ n) (h2 : n ≤ 4000000000000) (h1 : 1 ≤ n) : okC (rt2 (n, n)) := by
  obtain ⟨lo, hi, e, hr, a, b, -⟩ := rt2_mid h h2
  obtain ⟨c, d⟩ := root_bd hr h1 h2
  rw [e]; exact okC_small (by omega) (by omega) (by omega) (by omega)
def kindB (k : Int) : Bool := decide (0 < k) && decide (k < 4)
def sizesB (k B T : Int) : Bool := inB B 1000 500000 && (if k = 3 then inB T 1000 (B - 1) else T == B)
def mouthB (B M C : Int) : Bool := inB M 1 (4 * B) && inB C 1 (4 * B)
theorem bdB_eq (k B T M C : Int) : bdB k B T M C = (kindB k && (sizesB k B T && mouthB B M C)) := by
  have e1 : inB k 1 3 = kindB k := by
    unfold inB kindB
    rw [show decide (1 ≤ k) = decide (0 < k) from decide_eq_decide.2 (by omega), show decide (k ≤ 3) = decide (k < 4) from decide_eq_decide.2 (by omega)]
  have e2 : (if k = 3 then inB T 1000 (B - 1) else decide (T = B)) = (if k = 3 then inB T 1000 (B - 1) else T == B) := by
    split
    · rfl
    · rw [Bool.eq_iff_iff, decide_eq_true_eq, beq_iff_eq]
  unfold bdB sizesB mouthB
  rw [e1, e2, Bool.and_assoc]
set_option maxRecDepth 100000 in
set_option maxHeartbeats 2000000 in
theorem within_any (n lo hi : Int) (w : World) : Calls Tryd.prog 167 #[.int .i64 n, .int .i64 lo, .int .i64 hi] w fun r w' => r = .returned (.bool (inB n lo hi)) ∧ Below w.heap.size w w' := by
  refine calls_of_wp Tryd.func167 rfl ?_
  refine Boxw.out (ax_in ?_)
  have HB : Array.size ((#[.int .i64 n, .int .i64 lo, .int .i64 hi] : Array Value) ++ Array.replicate (Func.ntmps Tryd.f167 - Array.size (#[.int .i64 n, .int .i64 lo, .int .i64 hi] : Array Value)) undef) = 15 := by kernel_rfl
  have HL0 := Loc.start w
  refine aw_seq ?_
  refine aw_reg ?_
  refine ax_val (v := .bool false) (.bool false) HB (by kernel_rfl) (by kernel_rfl) (rfl) ?_
  refine aw_nil ?_
  refine aw_n_then ?_
  refine aw_seq ?_
  refine aw_reg ?_
  refine ax_val (v := .int .i64 lo) (.int .i64 lo) HB (by kernel_rfl) (by kernel_rfl) (rfl) ?_
  refine ax_val (v := .int .i64 n) (.int .i64 n) HB (by kernel_rfl) (by kernel_rfl) (rfl) ?_
  refine ax_fork (decide (lo ≤ n)) HB (by kernel_rfl) (by kernel_rfl) ?_ ?_
  · intro f1
    have k1 := of_decide_eq_true f1
    refine ax_val (v := .bool true) (.bool true) HB (by kernel_rfl) (by kernel_rfl) (rfl) ?_
    refine ax_val (v := .int .i64 n) (.int .i64 n) HB (by kernel_rfl) (by kernel_rfl) (rfl) ?_
    refine ax_val (v := .int .i64 hi) (.int .i64 hi) HB (by kernel_rfl) (by kernel_rfl) (rfl) ?_
    refine ax_fork (decide (n ≤ hi)) HB (by kernel_rfl) (by kernel_rfl) ?_ ?_
    · intro f3
      have k3 := of_decide_eq_true f3
      refine ax_val (v := .bool true) (.bool true) HB (by kernel_rfl) (by kernel_rfl) (rfl) ?_
      refine ax_val (v := .bool true) (.bool true) HB (by kernel_rfl) (by kernel_rfl) (rfl) ?_
      refine aw_nil ?_
      refine aw_n_then ?_
      refine aw_ret ?_
      refine aw_end (.bool true) (by kernel_rfl) (by kernel_rfl) ?_
      refine ⟨?_, HL0.bel⟩
      unfold inB; simp only [f1, f3]; rfl
    · intro f4
      have k4 := of_decide_eq_false f4
      refine ax_val (v := .bool false) (.bool false) HB (by kernel_rfl) (by kernel_rfl) (rfl) ?_
      refine ax_val (v := .bool false) (.bool false) HB (by kernel_rfl) (by kernel_rfl) (rfl) ?_
      refine aw_nil ?_
      refine aw_n_then ?_
      refine aw_ret ?_
      refine aw_end (.bool false) (by kernel_rfl) (by kernel_rfl) ?_
      refine ⟨?_, HL0.bel⟩
      unfold inB; simp only [f1, f4]; rfl
  · intro f2
    have k2 := of_decide_eq_false f2
    refine ax_val (v := .bool false) (.bool false) HB (by kernel_rfl) (by kernel_rfl) (rfl) ?_
    refine ax_pass  HB (by kernel_rfl) ?_
    refine ax_pass  HB (by kernel_rfl) ?_
    refine ax_pass  HB (by kernel_rfl) ?_
    refine ax_val (v := .bool false) (.bool false) HB (by kernel_rfl) (by kernel_rfl) (rfl) ?_
    refine ax_val (v := .bool false) (.bool false) HB (by kernel_rfl) (by kernel_rfl) (rfl) ?_
    refine aw_nil ?_
    refine aw_n_then ?_
    refine aw_ret ?_
    refine aw_end (.bool false) (by kernel_rfl) (by kernel_rfl) ?_
    refine ⟨?_, HL0.bel⟩
    unfold inB; simp only [f2]; rfl

set_option maxRecDepth 100000 in
set_option maxHeartbeats 2000000 in
theorem isKind_any (k : Int) (w : World) : Calls Tryd.prog 132 #[.int .i64 k] w fun r w' => r = .returned (.bool (kindB k)) ∧ Below w.heap.size w w' := by
  refine calls_of_wp Tryd.func132 rfl ?_
  refine Boxw.out (ax_in ?_)
  have HB : Array.size ((#[.int .i64 k] : Array Value) ++ Array.replicate (Func.ntmps Tryd.f132 - Array.size (#[.int .i64 k] : Array Value)) undef) = 9 := by kernel_rfl
  have HL0 := Loc.start w
  refine aw_seq ?_
  refine aw_reg ?_
  refine ax_val (v := .bool false) (.bool false) HB (by kernel_rfl) (by kernel_rfl) (rfl) ?_
  refine aw_nil ?_
  refine aw_n_then ?_
  refine aw_seq ?_
  refine aw_reg ?_
  refine ax_val (v := .int .i64 k) (.int .i64 k) HB (by kernel_rfl) (by kernel_rfl) (rfl) ?_
  refine ax_fork (decide (0 < k)) HB (by kernel_rfl) (by kernel_rfl) ?_ ?_
  · intro f1
    have k1 := of_decide_eq_true f1
    refine ax_val (v := .bool true) (.bool true) HB (by kernel_rfl) (by kernel_rfl) (rfl) ?_
    refine ax_val (v := .int .i64 k) (.int .i64 k) HB (by kernel_rfl) (by kernel_rfl) (rfl) ?_
    refine ax_fork (decide (k < 4)) HB (by kernel_rfl) (by kernel_rfl) ?_ ?_
    · intro f3
      have k3 := of_decide_eq_true f3
      refine ax_val (v := .bool true) (.bool true) HB (by kernel_rfl) (by kernel_rfl) (rfl) ?_
      refine ax_val (v := .bool true) (.bool true) HB (by kernel_rfl) (by kernel_rfl) (rfl) ?_
      refine aw_nil ?_
      refine aw_n_then ?_
      refine aw_ret ?_
      refine aw_end (.bool true) (by kernel_rfl) (by kernel_rfl) ?_
      refine ⟨?_, HL0.bel⟩
      unfold kindB; simp only [f1, f3]; rfl
    · intro f4
      have k4 := of_decide_eq_false f4
      refine ax_val (v := .bool false) (.bool false) HB (by kernel_rfl) (by kernel_rfl) (rfl) ?_
      refine ax_val (v := .bool false) (.bool false) HB (by kernel_rfl) (by kernel_rfl) (rfl) ?_
      refine aw_nil ?_
      refine aw_n_then ?_
      refine aw_ret ?_
      refine aw_end (.bool false) (by kernel_rfl) (by kernel_rfl) ?_
      refine ⟨?_, HL0.bel⟩
      unfold kindB; simp only [f1, f4]; rfl
  · intro f2
    have k2 := of_decide_eq_false f2
    refine ax_val (v := .bool false) (.bool false) HB (by kernel_rfl) (by kernel_rfl) (rfl) ?_
    refine ax_pass  HB (by kernel_rfl) ?_
    refine ax_pass  HB (by kernel_rfl) ?_
    refine ax_val (v := .bool false) (.bool false) HB (by kernel_rfl) (by kernel_rfl) (rfl) ?_
    refine ax_val (v := .bool false) (.bool false) HB (by kernel_rfl) (by kernel_rfl) (rfl) ?_
    refine aw_nil ?_
    refine aw_n_then ?_
    refine aw_ret ?_
    refine aw_end (.bool false) (by kernel_rfl) (by kernel_rfl) ?_
    refine ⟨?_, HL0.bel⟩
    unfold kindB; simp only [f2]; rfl

set_option maxRecDepth 100000 in
set_option maxHeartbeats 2000000 in
theorem hasSizes_any (k B T M C : Int) (w : World) : Calls Tryd.prog 133 #[.agg #[.int .i64 k, .int .i64 B, .int .i64 T, .int .i64 M, .int .i64 C]] w fun r w' => r = .returned (.bool (sizesB k B T)) ∧ Below w.heap.size w w' := by
  refine calls_of_wp Tryd.func133 rfl ?_
  refine Boxw.out (ax_in ?_)
  have HB : Array.size ((#[.agg #[.int .i64 k, .int .i64 B, .int .i64 T, .int .i64 M, .int .i64 C]] : Array Value) ++ Array.replicate (Func.ntmps Tryd.f133 - Array.size (#[.agg #[.int .i64 k, .int .i64 B, .int .i64 T, .int .i64 M, .int .i64 C]] : Array Value)) undef) = 21 := by kernel_rfl
  have HL0 := Loc.start w
  refine aw_seq ?_
  refine aw_reg ?_
  refine ax_new 64 [.int .i64 k, .int .i64 B, .int .i64 T, .int .i64 M, .int .i64 C] HB HL0 (by kernel_rfl) (by kernel_rfl) ?_
  intro g1 w2 HL3
  clear HL0
  refine ax_val (v := .bool false) (.bool false) HB (by kernel_rfl) (by kernel_rfl) (rfl) ?_
  refine aw_nil ?_
  refine aw_n_then ?_
  refine aw_seq ?_
  refine aw_seq ?_
  refine aw_reg ?_
  refine ax_val (v := .pointer (some ⟨g1, 1, none⟩)) (.pointer (some ⟨g1, 1, none⟩)) HB (by kernel_rfl) (by kernel_rfl) (rfl) ?_
  refine ax_load 2 (.tmp 3) 0 g1 1 64 [.int .i64 k, .int .i64 B, .int .i64 T, .int .i64 M, .int .i64 C] (.int .i64 B) _ HB HL3 (by kernel_rfl) rfl (by kernel_rfl) rfl rfl Tryd.underlying2 rfl ?_
  refine ax_callb 167 #[.int .i64 B, .int .i64 1000, .int .i64 500000] (inB B 1000 500000) HB HL3 (by kernel_rfl) (by kernel_rfl) (within_any B 1000 500000 w2) ?_ ?_
  · intro f6 w4 HL5
    clear HL3
    have k6 := inB_iff.1 f6
    refine ax_val (v := .bool false) (.bool false) HB (by kernel_rfl) (by kernel_rfl) (rfl) ?_
    refine aw_nil ?_
    refine aw_n_then ?_
    refine ax_no HB (by kernel_rfl) ?_
    refine aw_skip0 ?_
    refine aw_n_then ?_
    refine aw_seq ?_
    refine aw_seq ?_
    refine aw_reg ?_
    refine ax_val (v := .pointer (some ⟨g1, 0, none⟩)) (.pointer (some ⟨g1, 0, none⟩)) HB (by kernel_rfl) (by kernel_rfl) (rfl) ?_
    refine ax_load 3 (.tmp 7) 0 g1 0 64 [.int .i64 k, .int .i64 B, .int .i64 T, .int .i64 M, .int .i64 C] (.int .i64 k) _ HB HL5 (by kernel_rfl) rfl (by kernel_rfl) rfl rfl Tryd.underlying3 rfl ?_
    refine ax_fork (k == 3) HB (by kernel_rfl) (by kernel_rfl) ?_ ?_
    · intro f8
      have k8 := eq_of_beq f8
      refine aw_nil ?_
      refine aw_n_then ?_
      refine ax_yes HB (by kernel_rfl) ?_
      refine aw_seq ?_
      refine aw_reg ?_
      refine ax_val (v := .pointer (some ⟨g1, 2, none⟩)) (.pointer (some ⟨g1, 2, none⟩)) HB (by kernel_rfl) (by kernel_rfl) (rfl) ?_
      refine ax_load 2 (.tmp 10) 0 g1 2 64 [.int .i64 k, .int .i64 B, .int .i64 T, .int .i64 M, .int .i64 C] (.int .i64 T) _ HB HL5 (by kernel_rfl) rfl (by kernel_rfl) rfl rfl Tryd.underlying2 rfl ?_
      refine ax_val (v := .pointer (some ⟨g1, 1, none⟩)) (.pointer (some ⟨g1, 1, none⟩)) HB (by kernel_rfl) (by kernel_rfl) (rfl) ?_
      refine ax_load 2 (.tmp 12) 0 g1 1 64 [.int .i64 k, .int .i64 B, .int .i64 T, .int .i64 M, .int .i64 C] (.int .i64 B) _ HB HL5 (by kernel_rfl) rfl (by kernel_rfl) rfl rfl Tryd.underlying2 rfl ?_
      refine ax_val (v := .int .i64 (IntKind.i64.wrap (B - 1))) (.int .i64 (B - 1)) HB (by kernel_rfl) (by kernel_rfl) (congrArg (Value.int .i64) (IntWalk.i64_in _ (by omega))) ?_
      refine ax_callb 167 #[.int .i64 T, .int .i64 1000, .int .i64 (B - 1)] (inB T 1000 (B - 1)) HB HL5 (by kernel_rfl) (by kernel_rfl) (within_any T 1000 (B - 1) w4) ?_ ?_
      · intro f12 w10 HL11
        clear HL5
        have k12 := inB_iff.1 f12
        refine ax_val (v := .bool true) (.bool true) HB (by kernel_rfl) (by kernel_rfl) (rfl) ?_
        refine aw_nil ?_
        refine aw_n_then ?_
        refine aw_ret ?_
        refine aw_r_then ?_
        refine aw_end (.bool true) (by kernel_rfl) (by kernel_rfl) ?_
        exact ⟨by rw [sizesB, f6, Bool.true_and, if_pos k8, f12], HL11.bel⟩
      · intro f13 w10 HL11
        clear HL5
        have k13 := inB_no f13
        refine ax_val (v := .bool false) (.bool false) HB (by kernel_rfl) (by kernel_rfl) (rfl) ?_
        refine aw_nil ?_
        refine aw_n_then ?_
        refine aw_ret ?_
        refine aw_r_then ?_
        refine aw_end (.bool false) (by kernel_rfl) (by kernel_rfl) ?_
        exact ⟨by rw [sizesB, f6, Bool.true_and, if_pos k8, f13], HL11.bel⟩
    · intro f9
      have k9 := ne_of_beq_false f9
      refine aw_nil ?_
      refine aw_n_then ?_
      refine ax_no HB (by kernel_rfl) ?_
      refine aw_skip0 ?_
      refine aw_n_then ?_
      refine aw_seq ?_
      refine aw_reg ?_
      refine ax_val (v := .pointer (some ⟨g1, 2, none⟩)) (.pointer (some ⟨g1, 2, none⟩)) HB (by kernel_rfl) (by kernel_rfl) (rfl) ?_
      refine ax_load 2 (.tmp 16) 0 g1 2 64 [.int .i64 k, .int .i64 B, .int .i64 T, .int .i64 M, .int .i64 C] (.int .i64 T) _ HB HL5 (by kernel_rfl) rfl (by kernel_rfl) rfl rfl Tryd.underlying2 rfl ?_
      refine ax_val (v := .pointer (some ⟨g1, 1, none⟩)) (.pointer (some ⟨g1, 1, none⟩)) HB (by kernel_rfl) (by kernel_rfl) (rfl) ?_
      refine ax_load 2 (.tmp 18) 0 g1 1 64 [.int .i64 k, .int .i64 B, .int .i64 T, .int .i64 M, .int .i64 C] (.int .i64 B) _ HB HL5 (by kernel_rfl) rfl (by kernel_rfl) rfl rfl Tryd.underlying2 rfl ?_
      refine ax_fork (T == B) HB (by kernel_rfl) (by kernel_rfl) ?_ ?_
      · intro f14
        have k14 := eq_of_beq f14
        refine ax_val (v := .bool true) (.bool true) HB (by kernel_rfl) (by kernel_rfl) (rfl) ?_
        refine aw_nil ?_
        refine aw_n_then ?_
        refine aw_ret ?_
        refine aw_end (.bool true) (by kernel_rfl) (by kernel_rfl) ?_
        exact ⟨by rw [sizesB, f6, Bool.true_and, if_neg k9, f14], HL5.bel⟩
      · intro f15
        have k15 := ne_of_beq_false f15
        refine ax_val (v := .bool false) (.bool false) HB (by kernel_rfl) (by kernel_rfl) (rfl) ?_
        refine aw_nil ?_
        refine aw_n_then ?_
        refine aw_ret ?_
        refine aw_end (.bool false) (by kernel_rfl) (by kernel_rfl) ?_
        exact ⟨by rw [sizesB, f6, Bool.true_and, if_neg k9, f15], HL5.bel⟩
  · intro f7 w4 HL5
    clear HL3
    have k7 := inB_no f7
    refine ax_val (v := .bool true) (.bool true) HB (by kernel_rfl) (by kernel_rfl) (rfl) ?_
    refine aw_nil ?_
    refine aw_n_then ?_
    refine ax_yes HB (by kernel_rfl) ?_
    refine aw_seq ?_
    refine aw_reg ?_
    refine ax_val (v := .bool false) (.bool false) HB (by kernel_rfl) (by kernel_rfl) (rfl) ?_
    refine aw_nil ?_
    refine aw_n_then ?_
    refine aw_ret ?_
    refine aw_r_then ?_
    refine aw_end (.bool false) (by kernel_rfl) (by kernel_rfl) ?_
    exact ⟨by rw [sizesB, f7, Bool.false_and], HL5.bel⟩

set_option maxRecDepth 100000 in
set_option maxHeartbeats 2000000 in
theorem hasMouth_any (k B T M C : Int) (w : World) (h1 : 1000 ≤ B) (h2 : B ≤ 500000) : Calls Tryd.prog 134 #[.agg #[.int .i64 k, .int .i64 B, .int .i64 T, .int .i64 M, .int .i64 C]] w fun r w' => r = .returned (.bool (mouthB B M C)) ∧ Below w.heap.size w w' := by
  refine calls_of_wp Tryd.func134 rfl ?_
  refine Boxw.out (ax_in ?_)
  have HB : Array.size ((#[.agg #[.int .i64 k, .int .i64 B, .int .i64 T, .int .i64 M, .int .i64 C]] : Array Value) ++ Array.replicate (Func.ntmps Tryd.f134 - Array.size (#[.agg #[.int .i64 k, .int .i64 B, .int .i64 T, .int .i64 M, .int .i64 C]] : Array Value)) undef) = 17 := by kernel_rfl
  have HL0 := Loc.start w
  refine aw_seq ?_
  refine aw_reg ?_
  refine ax_new 64 [.int .i64 k, .int .i64 B, .int .i64 T, .int .i64 M, .int .i64 C] HB HL0 (by kernel_rfl) (by kernel_rfl) ?_
  intro g1 w2 HL3
  clear HL0
  refine ax_val (v := .bool false) (.bool false) HB (by kernel_rfl) (by kernel_rfl) (rfl) ?_
  refine aw_nil ?_
  refine aw_n_then ?_
  refine aw_seq ?_
  refine aw_reg ?_
  refine ax_val (v := .pointer (some ⟨g1, 3, none⟩)) (.pointer (some ⟨g1, 3, none⟩)) HB (by kernel_rfl) (by kernel_rfl) (rfl) ?_
  refine ax_load 2 (.tmp 3) 0 g1 3 64 [.int .i64 k, .int .i64 B, .int .i64 T, .int .i64 M, .int .i64 C] (.int .i64 M) _ HB HL3 (by kernel_rfl) rfl (by kernel_rfl) rfl rfl Tryd.underlying2 rfl ?_
  refine ax_val (v := .pointer (some ⟨g1, 1, none⟩)) (.pointer (some ⟨g1, 1, none⟩)) HB (by kernel_rfl) (by kernel_rfl) (rfl) ?_
  refine ax_load 2 (.tmp 5) 0 g1 1 64 [.int .i64 k, .int .i64 B, .int .i64 T, .int .i64 M, .int .i64 C] (.int .i64 B) _ HB HL3 (by kernel_rfl) rfl (by kernel_rfl) rfl rfl Tryd.underlying2 rfl ?_
  refine ax_val (v := .int .i64 (IntKind.i64.wrap (4 * B))) (.int .i64 (4 * B)) HB (by kernel_rfl) (by kernel_rfl) (congrArg (Value.int .i64) (IntWalk.i64_in _ (by omega))) ?_
  refine ax_callb 167 #[.int .i64 M, .int .i64 1, .int .i64 (4 * B)] (inB M 1 (4 * B)) HB HL3 (by kernel_rfl) (by kernel_rfl) (within_any M 1 (4 * B) w2) ?_ ?_
  · intro f6 w4 HL5
    clear HL3
    have k6 := inB_iff.1 f6
    refine ax_val (v := .bool true) (.bool true) HB (by kernel_rfl) (by kernel_rfl) (rfl) ?_
    refine ax_val (v := .pointer (some ⟨g1, 4, none⟩)) (.pointer (some ⟨g1, 4, none⟩)) HB (by kernel_rfl) (by kernel_rfl) (rfl) ?_
    refine ax_load 2 (.tmp 10) 0 g1 4 64 [.int .i64 k, .int .i64 B, .int .i64 T, .int .i64 M, .int .i64 C] (.int .i64 C) _ HB HL5 (by kernel_rfl) rfl (by kernel_rfl) rfl rfl Tryd.underlying2 rfl ?_
    refine ax_val (v := .pointer (some ⟨g1, 1, none⟩)) (.pointer (some ⟨g1, 1, none⟩)) HB (by kernel_rfl) (by kernel_rfl) (rfl) ?_
    refine ax_load 2 (.tmp 12) 0 g1 1 64 [.int .i64 k, .int .i64 B, .int .i64 T, .int .i64 M, .int .i64 C] (.int .i64 B) _ HB HL5 (by kernel_rfl) rfl (by kernel_rfl) rfl rfl Tryd.underlying2 rfl ?_
    refine ax_val (v := .int .i64 (IntKind.i64.wrap (4 * B))) (.int .i64 (4 * B)) HB (by kernel_rfl) (by kernel_rfl) (congrArg (Value.int .i64) (IntWalk.i64_in _ (by omega))) ?_
    refine ax_callb 167 #[.int .i64 C, .int .i64 1, .int .i64 (4 * B)] (inB C 1 (4 * B)) HB HL5 (by kernel_rfl) (by kernel_rfl) (within_any C 1 (4 * B) w4) ?_ ?_
    · intro f10 w8 HL9
      clear HL5
      have k10 := inB_iff.1 f10
      refine ax_val (v := .bool true) (.bool true) HB (by kernel_rfl) (by kernel_rfl) (rfl) ?_
      refine ax_val (v := .bool true) (.bool true) HB (by kernel_rfl) (by kernel_rfl) (rfl) ?_
      refine aw_nil ?_
      refine aw_n_then ?_
      refine aw_ret ?_
      refine aw_end (.bool true) (by kernel_rfl) (by kernel_rfl) ?_
      refine ⟨?_, HL9.bel⟩
      unfold mouthB; simp only [f6, f10]; rfl
    · intro f11 w8 HL9
      clear HL5
      have k11 := inB_no f11
      refine ax_val (v := .bool false) (.bool false) HB (by kernel_rfl) (by kernel_rfl) (rfl) ?_
      refine ax_val (v := .bool false) (.bool false) HB (by kernel_rfl) (by kernel_rfl) (rfl) ?_
      refine aw_nil ?_
      refine aw_n_then ?_
      refine aw_ret ?_
      refine aw_end (.bool false) (by kernel_rfl) (by kernel_rfl) ?_
      refine ⟨?_, HL9.bel⟩
      unfold mouthB; simp only [f6, f11]; rfl
  · intro f7 w4 HL5
    clear HL3
    have k7 := inB_no f7
    refine ax_val (v := .bool false) (.bool false) HB (by kernel_rfl) (by kernel_rfl) (rfl) ?_
    refine ax_pass  HB (by kernel_rfl) ?_
    refine ax_pass  HB (by kernel_rfl) ?_
    refine ax_pass  HB (by kernel_rfl) ?_
    refine ax_pass  HB (by kernel_rfl) ?_
    refine ax_pass  HB (by kernel_rfl) ?_
    refine ax_pass  HB (by kernel_rfl) ?_
    refine ax_val (v := .bool false) (.bool false) HB (by kernel_rfl) (by kernel_rfl) (rfl) ?_
    refine ax_val (v := .bool false) (.bool false) HB (by kernel_rfl) (by kernel_rfl) (rfl) ?_
    refine aw_nil ?_
    refine aw_n_then ?_
    refine aw_ret ?_
    refine aw_end (.bool false) (by kernel_rfl) (by kernel_rfl) ?_
    refine ⟨?_, HL5.bel⟩
    unfold mouthB; simp only [f7]; rfl

theorem sizes_bd {k B T : Int} (h : sizesB k B T = true) : 1000 ≤ B ∧ B ≤ 500000 := by
  unfold sizesB at h; rw [Bool.and_eq_true] at h; exact inB_iff.1 h.1
set_option maxRecDepth 100000 in
set_option maxHeartbeats 2000000 in
theorem Check_any (k B T M C : Int) (w : World) : Calls Tryd.prog 78 #[.agg #[.int .i64 k, .int .i64 B, .int .i64 T, .int .i64 M, .int .i64 C]] w fun r w' => r = .returned (.int .i64 (if bdB k B T M C = true then 0 else 2)) ∧ Below w.heap.size w w' := by
  refine calls_of_wp Tryd.func78 rfl ?_
  refine Boxw.out (ax_in ?_)
  have HB : Array.size ((#[.agg #[.int .i64 k, .int .i64 B, .int .i64 T, .int .i64 M, .int .i64 C]] : Array Value) ++ Array.replicate (Func.ntmps Tryd.f78 - Array.size (#[.agg #[.int .i64 k, .int .i64 B, .int .i64 T, .int .i64 M, .int .i64 C]] : Array Value)) undef) = 17 := by kernel_rfl
  have HL0 := Loc.start w
  refine aw_seq ?_
  refine aw_reg ?_
  refine ax_new 64 [.int .i64 k, .int .i64 B, .int .i64 T, .int .i64 M, .int .i64 C] HB HL0 (by kernel_rfl) (by kernel_rfl) ?_
  intro g1 w2 HL3
  clear HL0
  refine ax_val (v := .int .i64 0) (.int .i64 0) HB (by kernel_rfl) (by kernel_rfl) (rfl) ?_
  refine aw_nil ?_
  refine aw_n_then ?_
  refine aw_seq ?_
  refine aw_seq ?_
  refine aw_reg ?_
  refine ax_val (v := .pointer (some ⟨g1, 0, none⟩)) (.pointer (some ⟨g1, 0, none⟩)) HB (by kernel_rfl) (by kernel_rfl) (rfl) ?_
  refine ax_load 3 (.tmp 3) 0 g1 0 64 [.int .i64 k, .int .i64 B, .int .i64 T, .int .i64 M, .int .i64 C] (.int .i64 k) _ HB HL3 (by kernel_rfl) rfl (by kernel_rfl) rfl rfl Tryd.underlying3 rfl ?_
  refine ax_callb 132 #[.int .i64 k] (kindB k) HB HL3 (by kernel_rfl) (by kernel_rfl) (isKind_any k w2) ?_ ?_
  · intro f6 w4 HL5
    clear HL3
    refine ax_val (v := .bool false) (.bool false) HB (by kernel_rfl) (by kernel_rfl) (rfl) ?_
    refine ax_val (v := .bool false) (.bool false) HB (by kernel_rfl) (by kernel_rfl) (rfl) ?_
    refine ax_mid 64 (.tmp 1) 0 g1 0 64 [.int .i64 k, .int .i64 B, .int .i64 T, .int .i64 M, .int .i64 C] [.int .i64 k, .int .i64 B, .int .i64 T, .int .i64 M, .int .i64 C] _ HB HL5 (by kernel_rfl) rfl (by kernel_rfl) rfl rfl Tryd.underlying64 rfl (by kernel_rfl) ?_
    refine ax_callb 133 #[.agg #[.int .i64 k, .int .i64 B, .int .i64 T, .int .i64 M, .int .i64 C]] (sizesB k B T) HB HL5 (by kernel_rfl) (by kernel_rfl) (hasSizes_any k B T M C w4) ?_ ?_
    · intro f10 w8 HL9
      clear HL5
      refine ax_val (v := .bool false) (.bool false) HB (by kernel_rfl) (by kernel_rfl) (rfl) ?_
      refine ax_val (v := .bool false) (.bool false) HB (by kernel_rfl) (by kernel_rfl) (rfl) ?_
      refine ax_val (v := .bool false) (.bool false) HB (by kernel_rfl) (by kernel_rfl) (rfl) ?_
      refine ax_mid 64 (.tmp 1) 0 g1 0 64 [.int .i64 k, .int .i64 B, .int .i64 T, .int .i64 M, .int .i64 C] [.int .i64 k, .int .i64 B, .int .i64 T, .int .i64 M, .int .i64 C] _ HB HL9 (by kernel_rfl) rfl (by kernel_rfl) rfl rfl Tryd.underlying64 rfl (by kernel_rfl) ?_
      refine ax_callb 134 #[.agg #[.int .i64 k, .int .i64 B, .int .i64 T, .int .i64 M, .int .i64 C]] (mouthB B M C) HB HL9 (by kernel_rfl) (by kernel_rfl) (hasMouth_any k B T M C w8 (sizes_bd f10).1 (sizes_bd f10).2) ?_ ?_
      · intro f14 w12 HL13
        clear HL9
        refine ax_val (v := .bool false) (.bool false) HB (by kernel_rfl) (by kernel_rfl) (rfl) ?_
        refine ax_val (v := .bool false) (.bool false) HB (by kernel_rfl) (by kernel_rfl) (rfl) ?_
        refine aw_nil ?_
        refine aw_n_then ?_
        refine ax_no HB (by kernel_rfl) ?_
        refine aw_skip0 ?_
        refine aw_n_then ?_
        refine aw_seq ?_
        refine aw_reg ?_
        refine ax_val (v := .int .i64 0) (.int .i64 0) HB (by kernel_rfl) (by kernel_rfl) (rfl) ?_
        refine aw_nil ?_
        refine aw_n_then ?_
        refine aw_ret ?_
        refine aw_end (.int .i64 0) (by kernel_rfl) (by kernel_rfl) ?_
        exact ⟨by rw [bdB_eq]; simp only [f6, f10, f14]; rfl, HL13.bel⟩
      · intro f15 w12 HL13
        clear HL9
        refine ax_val (v := .bool true) (.bool true) HB (by kernel_rfl) (by kernel_rfl) (rfl) ?_
        refine ax_val (v := .bool true) (.bool true) HB (by kernel_rfl) (by kernel_rfl) (rfl) ?_
        refine aw_nil ?_
        refine aw_n_then ?_
        refine ax_yes HB (by kernel_rfl) ?_
        refine aw_seq ?_
        refine aw_reg ?_
        refine ax_val (v := .int .i64 2) (.int .i64 2) HB (by kernel_rfl) (by kernel_rfl) (rfl) ?_
        refine aw_nil ?_
        refine aw_n_then ?_
        refine aw_ret ?_
        refine aw_r_then ?_
        refine aw_end (.int .i64 2) (by kernel_rfl) (by kernel_rfl) ?_
        exact ⟨by rw [bdB_eq]; simp only [f6, f10, f15]; rfl, HL13.bel⟩
    · intro f11 w8 HL9
      clear HL5
      refine ax_val (v := .bool true) (.bool true) HB (by kernel_rfl) (by kernel_rfl) (rfl) ?_
      refine ax_val (v := .bool true) (.bool true) HB (by kernel_rfl) (by kernel_rfl) (rfl) ?_
      refine ax_val (v := .bool true) (.bool true) HB (by kernel_rfl) (by kernel_rfl) (rfl) ?_
      refine ax_pass  HB (by kernel_rfl) ?_
      refine ax_pass  HB (by kernel_rfl) ?_
      refine ax_pass  HB (by kernel_rfl) ?_
      refine ax_val (v := .bool true) (.bool true) HB (by kernel_rfl) (by kernel_rfl) (rfl) ?_
      refine aw_nil ?_
      refine aw_n_then ?_
      refine ax_yes HB (by kernel_rfl) ?_
      refine aw_seq ?_
      refine aw_reg ?_
      refine ax_val (v := .int .i64 2) (.int .i64 2) HB (by kernel_rfl) (by kernel_rfl) (rfl) ?_
      refine aw_nil ?_
      refine aw_n_then ?_
      refine aw_ret ?_
      refine aw_r_then ?_
      refine aw_end (.int .i64 2) (by kernel_rfl) (by kernel_rfl) ?_
      exact ⟨by rw [bdB_eq]; simp only [f6, f11]; rfl, HL9.bel⟩
  · intro f7 w4 HL5
    clear HL3
    refine ax_val (v := .bool true) (.bool true) HB (by kernel_rfl) (by kernel_rfl) (rfl) ?_
    refine ax_val (v := .bool true) (.bool true) HB (by kernel_rfl) (by kernel_rfl) (rfl) ?_
    refine ax_pass  HB (by kernel_rfl) ?_
    refine ax_pass  HB (by kernel_rfl) ?_
    refine ax_pass  HB (by kernel_rfl) ?_
    refine ax_val (v := .bool true) (.bool true) HB (by kernel_rfl) (by kernel_rfl) (rfl) ?_
    refine ax_val (v := .bool true) (.bool true) HB (by kernel_rfl) (by kernel_rfl) (rfl) ?_
    refine ax_pass  HB (by kernel_rfl) ?_
    refine ax_pass  HB (by kernel_rfl) ?_
    refine ax_pass  HB (by kernel_rfl) ?_
    refine ax_val (v := .bool true) (.bool true) HB (by kernel_rfl) (by kernel_rfl) (rfl) ?_
    refine aw_nil ?_
    refine aw_n_then ?_
    refine ax_yes HB (by kernel_rfl) ?_
    refine aw_seq ?_
    refine aw_reg ?_
    refine ax_val (v := .int .i64 2) (.int .i64 2) HB (by kernel_rfl) (by kernel_rfl) (rfl) ?_
    refine aw_nil ?_
    refine aw_n_then ?_
    refine aw_ret ?_
    refine aw_r_then ?_
    refine aw_end (.int .i64 2) (by kernel_rfl) (by kernel_rfl) ?_
    exact ⟨by rw [bdB_eq]; simp only [f7]; rfl, HL5.bel⟩

end Go.Proofs.YtmbcejldifobnaaDoor.Ln
