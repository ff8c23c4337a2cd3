import Derived.Test.YtmbcejldifobnaaDoorC13
import Derived.Test.YtmbcejldifobnaaDoorC09
import Derived.Test.YtmbcejldifobnaaDoorC11
import Derived.Test.YtmbcejldifobnaaDoorC08
import Derived.Deep.MidRow
namespace Go.Proofs.YtmbcejldifobnaaDoor.Pc
open Go.RowKit Tp
theorem notes_uniq {D : Int} {F : Nat → V6} {wn : Nat} {N N' : List Rt} (hD : 1 ≤ D) (h1 : NotesL D F wn 12 N) (h2 : NotesL D F wn 12 N') : N = N' := by
  refine List.ext_getElem? fun c => ?_
  by_cases hc : c < 12
  · obtain ⟨r, e1, k, hk, rfl⟩ := h1.at hc
    obtain ⟨s, e2, k', hk', rfl⟩ := h2.at hc
    have e := hk.unique (by omega) hk'
    subst e
    rw [e1, e2]
  · rw [List.getElem?_eq_none (by rw [h1.1]; omega), List.getElem?_eq_none (by rw [h2.1]; omega)]
/-- The ratio of a note to the note 69. -/
def nr (N : List Rt) (n : Nat) : Rt := noR (N[n % 12]?.getD Rt.zero) (N[9]?.getD Rt.zero) n
theorem nr_ok {D : Int} {F : Nat → V6} {wn n : Nat} {N : List Rt} (h : Circ D F wn) (hN : NotesL D F wn 12 N) (hn : n ≤ 143) :
    ∃ x y, N[n % 12]? = some x ∧ N[9]? = some y ∧ nr N n = noR x y n ∧ 1 ≤ (bothW x y (-1)).1.d ∧ (bothW x y (-1)).1.d ≤ 120 ∧ -100000 ≤ (bothW x y (-1)).1.v.a ∧ (bothW x y (-1)).1.v.a ≤ 100000 ∧ ROk (nr N n) := by
  obtain ⟨x, e1, hx⟩ := hN.at (c := n % 12) (by omega)
  obtain ⟨y, e2, hy⟩ := hN.at (c := 9) (by omega)
  have h2 := noR_ok (n := n) h (i := 7 * 9 % 12) (j := 7 * (n % 12) % 12) (by omega) (by omega) hy hx hn
  have e : nr N n = noR x y n := by unfold nr; rw [e1, e2]; rfl
  exact ⟨x, y, e1, e2, e, h2.1, h2.2.1, h2.2.2.1, h2.2.2.2.1, by rw [e]; exact h2.2.2.2.2⟩
theorem ROk.bdz {R : Rt} (h : ROk R) : Bd 1000000000 (nz R.v.zl) := fun x hx => by
  have h2 := zl_mem6 (List.mem_filter.1 hx).1
  obtain ⟨b1, b2, b3, b4, b5, b6⟩ := h.bd
  have h4 := h2.2
  unfold V6.l at h4
  simp only [List.mem_cons, List.not_mem_nil, or_false] at h4
  rcases h4 with h4 | h4 | h4 | h4 | h4 | h4 <;> (rw [h4]; omega)
theorem nz_len (v : V6) : (nz v.zl).length ≤ 6 := by
  have h1 : (nz v.zl).length ≤ v.zl.length := List.length_filter_le _ _
  have h2 : v.zl.length = 6 := by unfold V6.zl V6.l ps6; simp
  omega
theorem at_ok {D : Int} {F : Nat → V6} {wn : Nat} (a : Nat) (t0 t : Int) (g n : Nat) (N : List Rt) (W : World) (hp : PrL W) (h : Circ D F wn) (hN : NotesL D F wn 12 N) (hn : n ≤ 139) (hg : RowV W g 98 (fl7 N)) :
    Calls Tryd.prog 122 #[.agg (TunV (a : Int) t0 t g).toArray, .int .i64 (n : Int)] W fun e w' => (∃ V, e = .returned V ∧ RootV w' W.heap.size V (scL (nr N n).d [(a, 1)] ++ scL 1 (nz (nr N n).v.zl)) (1 * (nr N n).d)) ∧ Below W.heap.size W w' := by
  obtain ⟨x, y, e1, e2, e, d1, d2, a1, a2, hR⟩ := nr_ok (n := n) h hN (by omega)
  rw [e] at hR ⊢
  exact atT0_ok a t0 t g n (n % 12) N x y W hp hn rfl hg e1 e2 d1 (by omega) (by omega) (by omega) hR.er hR.bdz (by have := nz_len (noR x y n).v; omega)
theorem fq_bd {a : Nat} {R : Rt} (hR : ROk R) (ha : 1 ≤ a) (ha2 : a ≤ 1000000) : Bd 1000000000 (scL R.d [(a, 1)] ++ scL 1 (nz R.v.zl)) := fun x hx => by
  have := fq_one hR ha ha2 hx
  omega
theorem freq_ok {D : Int} {F : Nat → V6} {wn : Nat} (a : Nat) (t0 t : Int) (g n : Nat) (N : List Rt) (W : World) (hp : PrL W) (h : Circ D F wn) (hN : NotesL D F wn 12 N) (hn : n ≤ 139) (hg : RowV W g 98 (fl7 N)) (ha : 1 ≤ a) (ha2 : a ≤ 1000000)
    (h1 : -20000 ≤ t0) (h2 : t0 ≤ 50000) (h3 : -20000 ≤ t) (h4 : t ≤ 50000) :
    Calls Tryd.prog 67 #[.agg (TunV (a : Int) t0 t g).toArray, .int .i64 (n : Int)] W fun e w' => (∃ V, e = .returned V ∧ RootV w' W.heap.size V (fqL a t0 t (nr N n)) (fqD (nr N n))) ∧ Below W.heap.size W w' := by
  obtain ⟨x, y, e1, e2, e, d1, d2, a1, a2, hR⟩ := nr_ok (n := n) h hN (by omega)
  have r1 := hR.d1
  have r2 := hR.d2
  exact frequency_ok a t0 t g n _ _ W (fun W' hb => at_ok a t0 t g n N W' (hp.below hb) h hN hn (hg.up hb)) (by have := fq_len a (nr N n); omega) (fq_bd hR ha ha2) (by omega) (by omega) h1 h2 h3 h4
end Go.Proofs.YtmbcejldifobnaaDoor.Pc

namespace Go.Proofs.YtmbcejldifobnaaDoor.Pc
open Go.RowKit Tp Sp
/-- What Floor finds. -/
def MilP (F : Int → Int) (m : Int) : Prop := ((F (-1000000000000) < 0 ∨ 0 ≤ F 1000000000001) ∧ m = 0) ∨ (¬ (F (-1000000000000) < 0 ∨ 0 ≤ F 1000000000001) ∧ -1000000000000 ≤ m ∧ m ≤ 1000000000000 ∧ 0 ≤ F m ∧ F (m + 1) < 0)
theorem floor_x (v : Value) (l : List (Nat × Int)) (d s : Int) (k : Nat) (w : World) (hv : TmC w w.heap.size v l) (hl : validL l) (hd1 : 1 ≤ d) (hd2 : d ≤ 1000000) (hs1 : 1 ≤ s) (hs2 : s ≤ 10000000) (hs : ∀ m : Int, -1000000000000 ≤ m → m ≤ 1000000000001 → SignOk (scL s l ++ [(2, -(m * d))]) k) :
    Calls Tryd.prog 46 #[v, .int .i64 d, .int .i64 s] w fun e w' => ∃ V, e = .returned V ∧ (∃ (m : Int) (x : Bool) (y : Int), V = .tuple #[.int .i64 m, .bool x, .int .i64 y] ∧ MilP (fun m => sgnP (scL s l ++ [(2, -(m * d))])) m) ∧ Below w.heap.size w w' :=
  (Floor_any v l d s k w hv hl hd1 hd2 hs1 hs2 hs).mono fun e w' ⟨h, hb⟩ => by
    rcases h with ⟨h1, rfl⟩ | ⟨h1, m, h2, h3, h4, h5, rfl⟩
    · exact ⟨_, rfl, ⟨_, _, _, rfl, .inl ⟨h1, rfl⟩⟩, hb⟩
    · exact ⟨_, rfl, ⟨_, _, _, rfl, .inr ⟨h1, h2, h3, h4, h5⟩⟩, hb⟩
set_option maxRecDepth 100000 in
set_option maxHeartbeats 2000000 in
theorem mil_any (v : Value) (l : List (Nat × Int)) (d : Int) (k : Nat) (w : World) (hv : TmC w w.heap.size v l) (hl : validL l) (hd1 : 1 ≤ d) (hd2 : d ≤ 1000000) (hs : ∀ m : Int, -1000000000000 ≤ m → m ≤ 1000000000001 → SignOk (scL 1200000 l ++ [(2, -(m * d))]) k) : Calls Tryd.prog 70 #[.int .i64 d, v] w fun r w' => ∃ m, r = .returned (.int .i64 m) ∧ MilP (fun m => sgnP (scL 1200000 l ++ [(2, -(m * d))])) m ∧ Below w.heap.size w w' := by
  refine calls_of_wp Tryd.func70 rfl ?_
  refine Boxw.out (ax_in ?_)
  have HB : Array.size ((#[.int .i64 d, v] : Array Value) ++ Array.replicate (Func.ntmps Tryd.f70 - Array.size (#[.int .i64 d, v] : Array Value)) undef) = 16 := by kernel_rfl
  have HL0 := Loc.start w
  refine aw_seq ?_
  refine aw_reg ?_
  refine ax_val (v := .int .i64 0) (.int .i64 0) HB (by kernel_rfl) (by kernel_rfl) (rfl) ?_
  refine aw_nil ?_
  refine aw_n_then ?_
  refine aw_seq ?_
  refine aw_reg ?_
  refine ax_val (v := v) (v) HB (by kernel_rfl) (by kernel_rfl) (rfl) ?_
  refine ax_val (v := .int .i64 d) (.int .i64 d) HB (by kernel_rfl) (by kernel_rfl) (rfl) ?_
  refine ax_callx 46 #[v, .int .i64 d, .int .i64 1200000] HB HL0 (by kernel_rfl) (by kernel_rfl) (floor_x v l d 1200000 k w (tmc_loc hv HL0) hl hd1 hd2 (by omega) (by omega) hs) ?_
  intro v3 w1 R4 hb5 HL2
  obtain ⟨m6, x6, e6, rfl, hsr⟩ := R4
  clear HL0
  refine ax_val (v := .tuple #[.int .i64 m6, .bool x6, .int .i64 e6]) (.tuple #[.int .i64 m6, .bool x6, .int .i64 e6]) HB (by kernel_rfl) (by kernel_rfl) (rfl) ?_
  refine ax_val (v := .int .i64 m6) (.int .i64 m6) HB (by kernel_rfl) (by kernel_rfl) (rfl) ?_
  refine ax_val (v := .bool x6) (.bool x6) HB (by kernel_rfl) (by kernel_rfl) (rfl) ?_
  refine ax_val (v := .int .i64 e6) (.int .i64 e6) HB (by kernel_rfl) (by kernel_rfl) (rfl) ?_
  refine ax_val (v := .int .i64 m6) (.int .i64 m6) HB (by kernel_rfl) (by kernel_rfl) (rfl) ?_
  refine ax_val (v := .bool x6) (.bool x6) HB (by kernel_rfl) (by kernel_rfl) (rfl) ?_
  refine ax_val (v := .int .i64 e6) (.int .i64 e6) HB (by kernel_rfl) (by kernel_rfl) (rfl) ?_
  refine aw_nil ?_
  refine aw_n_then ?_
  refine aw_seq ?_
  refine aw_reg ?_
  refine ax_val (v := .int .i64 m6) (.int .i64 m6) HB (by kernel_rfl) (by kernel_rfl) (rfl) ?_
  refine ax_val (v := .int .i64 m6) (.int .i64 m6) HB (by kernel_rfl) (by kernel_rfl) (rfl) ?_
  refine aw_nil ?_
  refine aw_n_then ?_
  refine aw_ret ?_
  refine aw_end (.int .i64 m6) (by kernel_rfl) (by kernel_rfl) ?_
  exact ⟨_, rfl, hsr, HL2.bel⟩

theorem mil_x (v : Value) (l : List (Nat × Int)) (d : Int) (k : Nat) (w : World) (hv : TmC w w.heap.size v l) (hl : validL l) (hd1 : 1 ≤ d) (hd2 : d ≤ 1000000) (hs : ∀ m : Int, -1000000000000 ≤ m → m ≤ 1000000000001 → SignOk (scL 1200000 l ++ [(2, -(m * d))]) k) :
    Calls Tryd.prog 70 #[.int .i64 d, v] w fun r w' => ∃ V, r = .returned V ∧ (∃ m, V = .int .i64 m ∧ MilP (fun m => sgnP (scL 1200000 l ++ [(2, -(m * d))])) m) ∧ Below w.heap.size w w' :=
  (mil_any v l d k w hv hl hd1 hd2 hs).mono fun _ _ ⟨m, h1, h2, h3⟩ => ⟨_, h1, ⟨m, rfl, h2⟩, h3⟩
theorem tune_x (a t0 t : Int) (T : Tm) (D : Int) (wn : Nat) (w : World) (hp : PrL w) (hst : stdE a t0 t = 0) (hl : T.ps.length = 12) (hs : T.nm.size ≤ maxLen) (hk : chkT T = 0) (hv : Vd T D wn) : Calls Tryd.prog 68 #[.agg #[.int .i64 a, .int .i64 t0, .int .i64 t], .agg (tmV T).toArray] w fun e w' => ∃ V, e = .returned V ∧ (∃ N g, NotesL D (fN T D) wn 12 N ∧ V = .tuple #[.agg #[.int .i64 a, .int .i64 t0, .int .i64 t, .slice (some ⟨g, 0, none⟩) 12 12], .int .i64 0] ∧ RowV w' g 98 (fl7 N) ∧ w.heap.size ≤ g) ∧ Below w.heap.size w w' :=
  (tune_ok a t0 t T D wn w hp hst hl hs hk hv).mono fun _ _ ⟨N, g, h1, h2, h3, h4, h5⟩ => ⟨_, h2, ⟨N, g, h1, rfl, h3, h4⟩, h5⟩
theorem near_x (a t0 t : Int) (g f : Nat) (L : Nat → List (Nat × Int)) (dd : Nat → Int) (w : World) (hq : QOk (fun n => qL f (L n) (dd n)) dd) (hLne : ∀ n, n ≤ 139 → L n ≠ []) (hLl : ∀ n, n ≤ 139 → (L n).length ≤ 100) (hLb : ∀ n, n ≤ 139 → Bd 1000000000 (L n)) (hf : ∀ (n : Nat) (W : World), n ≤ 139 → Below w.heap.size w W → Calls Tryd.prog 67 #[.agg #[.int .i64 a, .int .i64 t0, .int .i64 t, .slice (some ⟨g, 0, none⟩) 12 12], .int .i64 (n : Int)] W fun e w' => (∃ V, e = .returned V ∧ RootV w' W.heap.size V (L n) (dd n)) ∧ Below W.heap.size W w') :
    Calls Tryd.prog 69 #[.agg #[.int .i64 a, .int .i64 t0, .int .i64 t, .slice (some ⟨g, 0, none⟩) 12 12], .int .i64 (f : Int)] w fun r w' => ∃ V, r = .returned V ∧ (∃ (N gz : Nat) (curz : List Value) (c : Nat), N ≤ 139 ∧ V = .tuple #[.int .i64 (N : Int), .agg #[.slice (some ⟨gz, 0, none⟩) (qL f (L N) (dd N)).length c, .int .i64 (dd N)]] ∧ TmCur curz (qL f (L N) (dd N)) ∧ (qL f (L N) (dd N)).length ≤ c ∧ Loc w [(gz, 84, curz)] w' ∧ (∀ k, k ≤ 139 → ¬ lsN (fun n => qL f (L n) (dd n)) dd k N)) ∧ Below w.heap.size w w' :=
  (nearest_any a t0 t g f L dd w hq hLne hLl hLb hf).mono fun _ _ ⟨N, gz, curz, c, h1, h2, h3, h4, h5, h6, h7⟩ => ⟨_, h2, ⟨N, gz, curz, c, h1, rfl, h3, h4, h5, h6⟩, h7⟩
set_option maxRecDepth 100000 in
set_option maxHeartbeats 2000000 in
theorem Nearest_any (a f : Nat) (t0 t : Int) (T : Tm) (D : Int) (wn k : Nat) (w : World) (hp : PrL w) (hst : stdE a t0 t = 0) (hl : T.ps.length = 12) (hs : T.nm.size ≤ maxLen) (hk : chkT T = 0) (hv : Vd T D wn) (hC : Circ D (fN T D) wn) (ha1 : 1 ≤ a) (ha2 : a ≤ 1000000) (h1 : -20000 ≤ t0) (h2 : t0 ≤ 50000) (h3 : -20000 ≤ t) (h4 : t ≤ 50000) (hf1 : 1 ≤ f) (hf2 : f ≤ 1000000000) (hq : ∀ N, NotesL D (fN T D) wn 12 N → QOk (fun n => qL f (fqL a t0 t (nr N n)) (fqD (nr N n))) (fun n => fqD (nr N n))) (hLne : ∀ N, NotesL D (fN T D) wn 12 N → ∀ n, n ≤ 139 → (fun n => fqL a t0 t (nr N n)) n ≠ []) (hLl : ∀ N, NotesL D (fN T D) wn 12 N → ∀ n, n ≤ 139 → ((fun n => fqL a t0 t (nr N n)) n).length ≤ 100) (hLb : ∀ N, NotesL D (fN T D) wn 12 N → ∀ n, n ≤ 139 → Bd 1000000000 ((fun n => fqL a t0 t (nr N n)) n)) (hvq : ∀ N, NotesL D (fN T D) wn 12 N → ∀ n, n ≤ 139 → validL ((fun n => qL f (fqL a t0 t (nr N n)) (fqD (nr N n))) n)) (hsq : ∀ N, NotesL D (fN T D) wn 12 N → ∀ n, n ≤ 139 → ∀ m : Int, -1000000000000 ≤ m → m ≤ 1000000000001 → SignOk (scL 1200000 ((fun n => qL f (fqL a t0 t (nr N n)) (fqD (nr N n))) n) ++ [(2, -(m * (fun n => fqD (nr N n)) n))]) k) : Calls Tryd.prog 27 #[.agg #[.int .i64 (a : Int), .int .i64 t0, .int .i64 t], .agg (tmV T).toArray, .int .i64 (f : Int)] w fun r w' => (∃ (N : List Rt) (M : Nat) (m : Int), NotesL D (fN T D) wn 12 N ∧ M ≤ 139 ∧ r = .returned (.tuple #[.int .i64 (M : Int), .int .i64 m, .int .i64 0]) ∧ MilP (fun m => sgnP (scL 1200000 ((fun n => qL f (fqL a t0 t (nr N n)) (fqD (nr N n))) M) ++ [(2, -(m * (fun n => fqD (nr N n)) M))])) m ∧ (∀ k, k ≤ 139 → ¬ lsN (fun n => qL f (fqL a t0 t (nr N n)) (fqD (nr N n))) (fun n => fqD (nr N n)) k M)) ∧ Below w.heap.size w w' := by
  refine calls_of_wp Tryd.func27 rfl ?_
  refine Boxw.out (ax_in ?_)
  have HB : Array.size ((#[.agg #[.int .i64 (a : Int), .int .i64 t0, .int .i64 t], .agg (tmV T).toArray, .int .i64 (f : Int)] : Array Value) ++ Array.replicate (Func.ntmps Tryd.f27 - Array.size (#[.agg #[.int .i64 (a : Int), .int .i64 t0, .int .i64 t], .agg (tmV T).toArray, .int .i64 (f : Int)] : Array Value)) undef) = 38 := by kernel_rfl
  have HL0 := Loc.start w
  refine aw_seq ?_
  refine aw_reg ?_
  refine ax_new 50 [.int .i64 (a : Int), .int .i64 t0, .int .i64 t] HB HL0 (by kernel_rfl) (by kernel_rfl) ?_
  intro g1 w2 HL3
  clear HL0
  refine ax_new 38 (tmV T) HB HL3 (by kernel_rfl) (by kernel_rfl) ?_
  intro g4 w5 HL6
  clear HL3
  refine ax_val (v := .int .i64 0) (.int .i64 0) HB (by kernel_rfl) (by kernel_rfl) (rfl) ?_
  refine ax_val (v := .int .i64 0) (.int .i64 0) HB (by kernel_rfl) (by kernel_rfl) (rfl) ?_
  refine ax_val (v := .int .i64 0) (.int .i64 0) HB (by kernel_rfl) (by kernel_rfl) (rfl) ?_
  refine aw_nil ?_
  refine aw_n_then ?_
  refine aw_seq ?_
  refine aw_reg ?_
  refine ax_mid 50 (.tmp 3) 1 g1 0 50 [.int .i64 (a : Int), .int .i64 t0, .int .i64 t] [.int .i64 (a : Int), .int .i64 t0, .int .i64 t] _ HB HL6 (by kernel_rfl) rfl (by kernel_rfl) rfl rfl Tryd.underlying50 rfl (by kernel_rfl) ?_
  refine ax_mid 38 (.tmp 4) 0 g4 0 38 (tmV T) (tmV T) _ HB HL6 (by kernel_rfl) rfl (by kernel_rfl) rfl (by rw [List.drop_zero, List.take_length]) Tryd.underlying38 rfl (by rw [tmV_len, hl]; kernel_rfl) ?_
  refine ax_callx 68 #[.agg #[.int .i64 (a : Int), .int .i64 t0, .int .i64 t], .agg (tmV T).toArray] HB HL6 (by kernel_rfl) (by kernel_rfl) (tune_x (a : Int) t0 t T D wn w5 (hp.below HL6.bel) hst hl hs hk hv) ?_
  intro v9 w7 R10 hb11 HL8
  obtain ⟨N, g, hN, rfl, hrow, hge⟩ := R10
  have HL12 : Loc w ((g, 98, fl7 N) :: [(g4, 38, tmV T), (g1, 50, [.int .i64 (a : Int), .int .i64 t0, .int .i64 t])]) w7 := HL8.push hrow hge HL6.bel.size HL6.lt
  clear HL6
  refine ax_val (v := .tuple #[.agg #[.int .i64 (a : Int), .int .i64 t0, .int .i64 t, .slice (some ⟨g, 0, none⟩) 12 12], .int .i64 0]) (.tuple #[.agg #[.int .i64 (a : Int), .int .i64 t0, .int .i64 t, .slice (some ⟨g, 0, none⟩) 12 12], .int .i64 0]) HB (by kernel_rfl) (by kernel_rfl) (rfl) ?_
  refine ax_val (v := .agg #[.int .i64 (a : Int), .int .i64 t0, .int .i64 t, .slice (some ⟨g, 0, none⟩) 12 12]) (.agg #[.int .i64 (a : Int), .int .i64 t0, .int .i64 t, .slice (some ⟨g, 0, none⟩) 12 12]) HB (by kernel_rfl) (by kernel_rfl) (rfl) ?_
  refine ax_val (v := .int .i64 0) (.int .i64 0) HB (by kernel_rfl) (by kernel_rfl) (rfl) ?_
  refine ax_new 109 [.int .i64 0, .int .i64 0, .int .i64 0, .slice none 0 0] HB HL12 (by kernel_rfl) (by kernel_rfl) ?_
  intro g13 w14 HL15
  clear HL12
  refine ax_store 109 (.tmp 9) (.tmp 15) 0 g13 0 109 [.int .i64 0, .int .i64 0, .int .i64 0, .slice none 0 0] [.int .i64 (a : Int), .int .i64 t0, .int .i64 t, .slice (some ⟨g, 0, none⟩) 12 12] [.int .i64 (a : Int), .int .i64 t0, .int .i64 t, .slice (some ⟨g, 0, none⟩) 12 12] [(g13, 109, [.int .i64 (a : Int), .int .i64 t0, .int .i64 t, .slice (some ⟨g, 0, none⟩) 12 12]), (g, 98, fl7 N), (g4, 38, tmV T), (g1, 50, [.int .i64 (a : Int), .int .i64 t0, .int .i64 t])] HB HL15 (by kernel_rfl) rfl (by kernel_rfl) (by kernel_rfl) rfl (by kernel_rfl) (by kernel_rfl) (Nat.le_of_ble_eq_true rfl) rfl rfl ?_
  intro w16 HL17
  clear HL15
  refine ax_val (v := .int .i64 0) (.int .i64 0) HB (by kernel_rfl) (by kernel_rfl) (rfl) ?_
  refine aw_nil ?_
  refine aw_n_then ?_
  refine aw_seq ?_
  refine aw_seq ?_
  refine aw_reg ?_
  refine ax_val (v := .int .i64 0) (.int .i64 0) HB (by kernel_rfl) (by kernel_rfl) (rfl) ?_
  refine ax_val (v := .bool false) (.bool false) HB (by kernel_rfl) (by kernel_rfl) (rfl) ?_
  refine aw_nil ?_
  refine aw_n_then ?_
  refine ax_no HB (by kernel_rfl) ?_
  refine aw_skip0 ?_
  refine aw_n_then ?_
  refine aw_seq ?_
  refine aw_seq ?_
  refine aw_reg ?_
  refine ax_val (v := .int .i64 (f : Int)) (.int .i64 (f : Int)) HB (by kernel_rfl) (by kernel_rfl) (rfl) ?_
  refine ax_val (v := .bool (decide ((f : Int) < 1))) (.bool false) HB (by kernel_rfl) (by kernel_rfl) (congrArg Value.bool ((decide_eq_false (by omega)))) ?_
  refine ax_val (v := .bool false) (.bool false) HB (by kernel_rfl) (by kernel_rfl) (rfl) ?_
  refine ax_val (v := .int .i64 (f : Int)) (.int .i64 (f : Int)) HB (by kernel_rfl) (by kernel_rfl) (rfl) ?_
  refine ax_val (v := .bool (decide (1000000000 < (f : Int)))) (.bool false) HB (by kernel_rfl) (by kernel_rfl) (congrArg Value.bool ((decide_eq_false (by omega)))) ?_
  refine ax_val (v := .bool false) (.bool false) HB (by kernel_rfl) (by kernel_rfl) (rfl) ?_
  refine aw_nil ?_
  refine aw_n_then ?_
  refine ax_no HB (by kernel_rfl) ?_
  refine aw_skip0 ?_
  refine aw_n_then ?_
  refine aw_seq ?_
  refine aw_reg ?_
  refine ax_mid 109 (.tmp 9) 0 g13 0 109 [.int .i64 (a : Int), .int .i64 t0, .int .i64 t, .slice (some ⟨g, 0, none⟩) 12 12] [.int .i64 (a : Int), .int .i64 t0, .int .i64 t, .slice (some ⟨g, 0, none⟩) 12 12] _ HB HL17 (by kernel_rfl) rfl (by kernel_rfl) rfl rfl Tryd.underlying109 rfl (by kernel_rfl) ?_
  refine ax_val (v := .int .i64 (f : Int)) (.int .i64 (f : Int)) HB (by kernel_rfl) (by kernel_rfl) (rfl) ?_
  refine ax_callx 69 #[.agg #[.int .i64 (a : Int), .int .i64 t0, .int .i64 t, .slice (some ⟨g, 0, none⟩) 12 12], .int .i64 (f : Int)] HB HL17 (by kernel_rfl) (by kernel_rfl) (near_x (a : Int) t0 t g f (fun n => fqL a t0 t (nr N n)) (fun n => fqD (nr N n)) w16 (hq N hN) (hLne N hN) (hLl N hN) (hLb N hN) (fun n W' hn hb => freq_ok a t0 t g n N W' ((hp.below HL17.bel).below hb) hC hN hn ((HL17.get (i := 1) rfl).up hb) ha1 ha2 h1 h2 h3 h4)) ?_
  intro v20 w18 R21 hb22 HL19
  obtain ⟨M, gz, curz, c, hM, rfl, htz, hcz, hlz, hmin⟩ := R21
  have HL23 := locGraft HL17 hlz
  clear HL17
  refine ax_val (v := .tuple #[.int .i64 (M : Int), .agg #[.slice (some ⟨gz, 0, none⟩) (qL f (fqL a t0 t (nr N M)) (fqD (nr N M))).length c, .int .i64 (fqD (nr N M))]]) (.tuple #[.int .i64 (M : Int), .agg #[.slice (some ⟨gz, 0, none⟩) (qL f (fqL a t0 t (nr N M)) (fqD (nr N M))).length c, .int .i64 (fqD (nr N M))]]) HB (by kernel_rfl) (by kernel_rfl) (rfl) ?_
  refine ax_val (v := .int .i64 (M : Int)) (.int .i64 (M : Int)) HB (by kernel_rfl) (by kernel_rfl) (rfl) ?_
  refine ax_val (v := .agg #[.slice (some ⟨gz, 0, none⟩) (qL f (fqL a t0 t (nr N M)) (fqD (nr N M))).length c, .int .i64 (fqD (nr N M))]) (.agg #[.slice (some ⟨gz, 0, none⟩) (qL f (fqL a t0 t (nr N M)) (fqD (nr N M))).length c, .int .i64 (fqD (nr N M))]) HB (by kernel_rfl) (by kernel_rfl) (rfl) ?_
  refine ax_new 113 [.slice none 0 0, .int .i64 0] HB HL23 (by kernel_rfl) (by kernel_rfl) ?_
  intro g24 w25 HL26
  clear HL23
  refine ax_val (v := .int .i64 (M : Int)) (.int .i64 (M : Int)) HB (by kernel_rfl) (by kernel_rfl) (rfl) ?_
  refine ax_store 113 (.tmp 10) (.tmp 31) 0 g24 0 113 [.slice none 0 0, .int .i64 0] [.slice (some ⟨gz, 0, none⟩) (qL f (fqL a t0 t (nr N M)) (fqD (nr N M))).length c, .int .i64 (fqD (nr N M))] [.slice (some ⟨gz, 0, none⟩) (qL f (fqL a t0 t (nr N M)) (fqD (nr N M))).length c, .int .i64 (fqD (nr N M))] [(g24, 113, [.slice (some ⟨gz, 0, none⟩) (qL f (fqL a t0 t (nr N M)) (fqD (nr N M))).length c, .int .i64 (fqD (nr N M))]), (gz, 84, curz), (g13, 109, [.int .i64 (a : Int), .int .i64 t0, .int .i64 t, .slice (some ⟨g, 0, none⟩) 12 12]), (g, 98, fl7 N), (g4, 38, tmV T), (g1, 50, [.int .i64 (a : Int), .int .i64 t0, .int .i64 t])] HB HL26 (by kernel_rfl) rfl (by kernel_rfl) (by kernel_rfl) rfl (by kernel_rfl) (by kernel_rfl) (Nat.le_of_ble_eq_true rfl) rfl rfl ?_
  intro w27 HL28
  clear HL26
  refine aw_nil ?_
  refine aw_n_then ?_
  refine aw_seq ?_
  refine aw_reg ?_
  refine ax_val (v := .int .i64 (M : Int)) (.int .i64 (M : Int)) HB (by kernel_rfl) (by kernel_rfl) (rfl) ?_
  refine ax_val (v := .pointer (some ⟨g24, 1, none⟩)) (.pointer (some ⟨g24, 1, none⟩)) HB (by kernel_rfl) (by kernel_rfl) (rfl) ?_
  refine ax_load 2 (.tmp 33) 0 g24 1 113 [.slice (some ⟨gz, 0, none⟩) (qL f (fqL a t0 t (nr N M)) (fqD (nr N M))).length c, .int .i64 (fqD (nr N M))] (.int .i64 (fqD (nr N M))) _ HB HL28 (by kernel_rfl) rfl (by kernel_rfl) rfl rfl Tryd.underlying2 rfl ?_
  refine ax_val (v := .pointer (some ⟨g24, 0, none⟩)) (.pointer (some ⟨g24, 0, none⟩)) HB (by kernel_rfl) (by kernel_rfl) (rfl) ?_
  refine ax_load 78 (.tmp 35) 0 g24 0 113 [.slice (some ⟨gz, 0, none⟩) (qL f (fqL a t0 t (nr N M)) (fqD (nr N M))).length c, .int .i64 (fqD (nr N M))] (.slice (some ⟨gz, 0, none⟩) (qL f (fqL a t0 t (nr N M)) (fqD (nr N M))).length c) _ HB HL28 (by kernel_rfl) rfl (by kernel_rfl) rfl rfl Tryd.underlying78 rfl ?_
  refine ax_callx 70 #[.int .i64 (fqD (nr N M)), .slice (some ⟨gz, 0, none⟩) (qL f (fqL a t0 t (nr N M)) (fqD (nr N M))).length c] HB HL28 (by kernel_rfl) (by kernel_rfl) (mil_x _ (qL f (fqL a t0 t (nr N M)) (fqD (nr N M))) (fqD (nr N M)) k w27 (tmc_row (i := 1) HL28 rfl htz hcz) (hvq N hN M hM) ((hq N hN).d1 M hM) (Int.le_trans ((hq N hN).d2 M hM) (by omega)) (hsq N hN M hM)) ?_
  intro v31 w29 R32 hb33 HL30
  obtain ⟨m, rfl, hmil⟩ := R32
  clear HL28
  refine ax_val (v := .int .i64 (M : Int)) (.int .i64 (M : Int)) HB (by kernel_rfl) (by kernel_rfl) (rfl) ?_
  refine ax_val (v := .int .i64 m) (.int .i64 m) HB (by kernel_rfl) (by kernel_rfl) (rfl) ?_
  refine ax_val (v := .int .i64 0) (.int .i64 0) HB (by kernel_rfl) (by kernel_rfl) (rfl) ?_
  refine aw_nil ?_
  refine aw_n_then ?_
  refine aw_ret ?_
  refine aw_end (.tuple #[.int .i64 (M : Int), .int .i64 m, .int .i64 0]) (by kernel_rfl) (by kernel_rfl) ?_
  exact ⟨⟨N, M, m, hN, hM, rfl, hmil, hmin⟩, HL30.bel⟩

end Go.Proofs.YtmbcejldifobnaaDoor.Pc

namespace Go.Proofs.YtmbcejldifobnaaDoor.Pc
open Go.RowKit Tp Sp
def Z3 (v : V6) : Prop := v.d = 0 ∧ v.e = 0 ∧ v.f = 0
theorem Z3.add {u v : V6} (h : Z3 u) (k : Z3 v) : Z3 (u.add v) := by
  obtain ⟨h1, h2, h3⟩ := h
  obtain ⟨k1, k2, k3⟩ := k
  exact ⟨by show u.d + v.d = 0; omega, by show u.e + v.e = 0; omega, by show u.f + v.f = 0; omega⟩
theorem Z3.scl {v : V6} (k : Int) (h : Z3 v) : Z3 (V6.scl k v) := by
  obtain ⟨h1, h2, h3⟩ := h
  exact ⟨by show k * v.d = 0; rw [h1, Int.mul_zero], by show k * v.e = 0; rw [h2, Int.mul_zero], by show k * v.f = 0; rw [h3, Int.mul_zero]⟩
theorem Z3.two {v : V6} (x : Int) (h : Z3 v) : Z3 (v.two x) := h
theorem Z3.quo {v : V6} (k : Int) (h : Z3 v) : Z3 (v.quo k) := by
  obtain ⟨h1, h2, h3⟩ := h
  exact ⟨by show v.d.tdiv k = 0; rw [h1, Int.zero_tdiv], by show v.e.tdiv k = 0; rw [h2, Int.zero_tdiv], by show v.f.tdiv k = 0; rw [h3, Int.zero_tdiv]⟩
theorem Z3.oct (x : Int) : Z3 (octV x) := ⟨rfl, rfl, rfl⟩
theorem Z3.low {v : V6} {d : Int} (h : Z3 v) : Z3 (lowR v d).v := h.quo _
theorem z3_zero : Z3 Rt.zero.v := ⟨rfl, rfl, rfl⟩
theorem z3_lowW {v : V6} {d : Int} (h : Z3 v) : Z3 (lowW v d).1.v := by
  unfold lowW
  split
  · exact h.low
  · exact z3_zero
theorem Z3.both {x y : Rt} {b : Int} (hx : Z3 x.v) (hy : Z3 y.v) : Z3 (bothW x y b).1.v := by
  unfold bothW
  split
  · split
    · exact z3_lowW (by unfold timesW; exact (hx.scl _).add (hy.scl _))
    · exact z3_zero
  · exact z3_zero
theorem z3_fN (T : Tm) (D : Int) (i : Nat) : Z3 (fN T D i) := by
  have hc : Z3 (cmV T.sy) := by rcases cmV_cases T.sy with h | h <;> rw [h] <;> exact ⟨rfl, rfl, rfl⟩
  exact (Z3.scl D (show Z3 w32 from ⟨rfl, rfl, rfl⟩)).add ((hc.scl _).scl _)
theorem z3_LS {D : Int} {F : Nat → V6} {wf : Nat} (h : ∀ i, Z3 (F i)) : ∀ n, Z3 (LS D F wf n)
  | 0 => Z3.oct _
  | n + 1 => by
    unfold LS
    split
    · exact z3_LS h n
    · exact (z3_LS h n).add ((h n).scl _)
theorem z3_FF {D : Int} {F : Nat → V6} {wf : Nat} (h : ∀ i, Z3 (F i)) (i : Nat) : Z3 (FF D F wf i) := by
  unfold FF
  split
  · exact z3_LS h 12
  · exact h i
theorem z3_PS {F : Nat → V6} (h : ∀ i, Z3 (F i)) : ∀ n, Z3 (PS F n)
  | 0 => Z3.oct _
  | n + 1 => (z3_PS h n).add (h n)
theorem z3_note {D : Int} {F : Nat → V6} {wf i : Nat} {r : Rt} (h : ∀ i, Z3 (F i)) (hn : NoteIs D F wf i r) : Z3 r.v := by
  obtain ⟨k, -, rfl⟩ := hn
  exact ((z3_PS (z3_FF h) i).two _).low
theorem z3_nr {D : Int} {T : Tm} {wn n : Nat} {N : List Rt} (hN : NotesL D (fN T D) wn 12 N) : Z3 (nr N n).v := by
  obtain ⟨x, e1, hx⟩ := hN.at (c := n % 12) (by omega)
  obtain ⟨y, e2, hy⟩ := hN.at (c := 9) (by omega)
  have e : nr N n = noR x y n := by unfold nr; rw [e1, e2]; rfl
  rw [e]
  exact (Z3.both (z3_note (z3_fN T D) hx) (z3_note (z3_fN T D) hy)).two _
theorem nz_len3 {v : V6} (h : Z3 v) : (nz v.zl).length ≤ 3 := by
  obtain ⟨h1, h2, h3⟩ := h
  have e : v.zl = [(2, v.a), (3, v.b), (5, v.c)] ++ [(7, v.d), (11, v.e), (13, v.f)] := rfl
  rw [e]
  unfold nz
  rw [List.filter_append, h1, h2, h3]
  have h := List.length_filter_le (fun x : Nat × Int => x.2 != 0) [(2, v.a), (3, v.b), (5, v.c)]
  have e2 : List.filter (fun x : Nat × Int => x.2 != 0) [(7, 0), (11, 0), (13, 0)] = [] := rfl
  rw [e2, List.append_nil]
  exact h
end Go.Proofs.YtmbcejldifobnaaDoor.Pc

namespace Go.Proofs.YtmbcejldifobnaaDoor.Pc
open Go.RowKit Tp Sp
theorem sgn_ge_two {l u v : List (Nat × Int)} (hl : posN l) (hu : posN u) (hv : posN v) (h : ∀ p, ex p l = ex p u + ex p v) (h1 : 0 ≤ sgnP u) (h2 : 0 ≤ sgnP v) : 0 ≤ sgnP l :=
  sgn_mul_ge hl hu hv (eqv_ex fun p => by rw [h, ex_append]) h1 h2
theorem sgn_neg2 (l : List (Nat × Int)) : sgnP (invL l) = -sgnP l := by
  unfold sgnP
  rw [(invL_P l).1, (invL_P l).2]
  by_cases h1 : upP l = dnP l
  · rw [if_pos h1.symm, if_pos h1]; rfl
  · rw [if_neg (fun h => h1 h.symm), if_neg h1]
    by_cases h2 : dnP l < upP l
    · rw [if_neg (by omega), if_pos h2]
    · rw [if_pos (by omega), if_neg h2]; rfl
def Sm (n : Nat) (l : List (Nat × Int)) : Prop := l.length ≤ n ∧ ∀ x ∈ l, 1 ≤ x.1 ∧ x.1 ≤ 1000000000000 ∧ x.2.natAbs ≤ 200000
theorem fq_sm {a : Nat} {t0 t : Int} {R : Rt} (hR : ROk R) (hz : Z3 R.v) (ha : 1 ≤ a) (ha2 : a ≤ 1000000) (h1 : -20000 ≤ t0) (h2 : t0 ≤ 50000) (h3 : -20000 ≤ t) (h4 : t ≤ 50000) : Sm 6 (fqL a t0 t R) := by
  refine ⟨?_, fun x hx => ?_⟩
  · have := nz_len3 hz
    unfold fqL
    rw [List.length_append, scL_len, scL_len, List.length_append, scL_len, scL_len]
    simp only [fastL, List.length_cons, List.length_nil]
    omega
  · rcases List.mem_append.1 hx with hx | hx
    · obtain ⟨y, hy, rfl⟩ := List.mem_map.1 hx
      have := fq_one hR ha ha2 hy
      simp only
      omega
    · obtain ⟨y, hy, rfl⟩ := List.mem_map.1 hx
      have h5 := fast_mem h1 h2 h3 h4 hy
      have h6 := mul_abs h5.2.2 hR.d1 hR.d2
      rw [Int.one_mul]
      simp only
      omega
theorem Sm.neg {n : Nat} {l : List (Nat × Int)} (h : Sm n l) : Sm n (negL l) := by
  refine ⟨by rw [negL_len]; exact h.1, fun x hx => ?_⟩
  obtain ⟨y, hy, rfl⟩ := List.mem_map.1 hx
  have := h.2 y hy
  simp only
  omega
theorem Sm.abs {n : Nat} {l : List (Nat × Int)} {d : Int} (h : Sm n l) : Sm n (absL l d) := by
  unfold absL; split
  · exact h.neg
  · exact h
theorem Sm.pos {n : Nat} {l : List (Nat × Int)} (h : Sm n l) : posN l := fun x hx => (h.2 x hx).1
theorem Sm.bd {n : Nat} {l : List (Nat × Int)} (h : Sm n l) : Bd 1000000000 l := fun x hx => by have := h.2 x hx; omega
theorem Sm.valid {n : Nat} {l : List (Nat × Int)} (h : Sm n l) (hn : n ≤ 16) : validL l := ⟨by have := h.1; omega, fun x hx => by have := h.2 x hx; omega⟩
theorem Sm.qL {n f : Nat} {l : List (Nat × Int)} {d : Int} (h : Sm n l) (hf1 : 1 ≤ f) (hf2 : f ≤ 1000000000) (hd : d.natAbs ≤ 200000) : Sm (n + 1) (qL f l d) := by
  refine ⟨by unfold Pc.qL; rw [List.length_append, scL_len, scL_len, negL_len]; have := h.1; simp only [List.length_cons, List.length_nil]; omega, fun x hx => ?_⟩
  rcases List.mem_append.1 hx with hx | hx
  · obtain ⟨y, hy, rfl⟩ := List.mem_map.1 hx
    rw [List.mem_singleton] at hy
    subst hy
    simp only [Int.one_mul]
    omega
  · obtain ⟨y, hy, rfl⟩ := List.mem_map.1 hx
    have := h.neg.2 y hy
    simp only [Int.mul_one]
    omega
theorem Sm.pair {n m : Nat} {l k : List (Nat × Int)} {d e : Int} (h : Sm n l) (h' : Sm m k) (hnm : n + m ≤ 16) (hd1 : 1 ≤ d) (hd2 : d ≤ 1000) (he1 : 1 ≤ e) (he2 : e ≤ 1000) : validL (scL e l ++ scL d (negL k)) := by
  have key : ∀ (j : List (Nat × Int)) (c : Int), 1 ≤ c → c ≤ 1000 → (∀ x ∈ j, 1 ≤ x.1 ∧ x.1 ≤ 1000000000000 ∧ x.2.natAbs ≤ 200000) → ∀ x ∈ scL c j, 1 ≤ x.1 ∧ x.1 ≤ 1000000000000 ∧ x.2.natAbs ≤ 1000000000 := fun j c c1 c2 hj x hx => by
    obtain ⟨y, hy, rfl⟩ := List.mem_map.1 hx
    have h0 := hj y hy
    refine ⟨h0.1, h0.2.1, ?_⟩
    show (y.2 * c).natAbs ≤ _
    rw [Int.natAbs_mul]
    exact Nat.le_trans (Nat.mul_le_mul h0.2.2 (show c.natAbs ≤ 1000 by omega)) (by decide)
  refine ⟨?_, fun x hx => ?_⟩
  · rw [List.length_append, scL_len, scL_len, negL_len]
    have := h.1
    have := h'.1
    omega
  · rcases List.mem_append.1 hx with hx | hx
    · exact key l e he1 he2 h.2 x hx
    · exact key _ d hd1 hd2 h'.neg.2 x hx
theorem lsR_irr {n : Nat} {l : List (Nat × Int)} {d : Int} (h : Sm n l) : ¬ lsR l d l d := by
  intro hl
  unfold lsR at hl
  have hp : posN (scL d (absL l d) ++ scL d (negL (absL l d))) := fun x hx => by
    rcases List.mem_append.1 hx with hx | hx
    · obtain ⟨y, hy, rfl⟩ := List.mem_map.1 hx
      exact (h.abs.2 y hy).1
    · obtain ⟨y, hy, rfl⟩ := List.mem_map.1 hx
      exact (h.abs.neg.2 y hy).1
  rw [sgn_ex (l' := []) hp (fun _ h => by cases h) (fun p => by
    rw [ex_append, ex_scL, ex_scL, ex_neg]
    show _ = (0 : Int)
    rw [Int.neg_mul]
    omega)] at hl
  exact absurd hl (by decide)
theorem pos_pair {n m : Nat} {l k : List (Nat × Int)} {d e : Int} (h : Sm n l) (h' : Sm m k) : posN (scL e l ++ scL d (negL k)) := fun x hx => by
  rcases List.mem_append.1 hx with hx | hx
  · obtain ⟨y, hy, rfl⟩ := List.mem_map.1 hx
    exact (h.2 y hy).1
  · obtain ⟨y, hy, rfl⟩ := List.mem_map.1 hx
    exact (h'.neg.2 y hy).1
theorem posN_scLq {s : Int} {l : List (Nat × Int)} (h : posN l) : posN (scL s l) := fun x hx => by
  obtain ⟨y, hy, rfl⟩ := List.mem_map.1 hx
  exact h y hy
theorem posN_neg {l : List (Nat × Int)} (h : posN l) : posN (negL l) := fun x hx => by
  obtain ⟨y, hy, rfl⟩ := List.mem_map.1 hx
  exact h y hy
theorem lsR_tr {n : Nat} {li lj lk : List (Nat × Int)} {di dj dk : Int} (hi : Sm n li) (hj : Sm n lj) (hk : Sm n lk) (di1 : 1 ≤ di) (dj1 : 1 ≤ dj) (dk1 : 1 ≤ dk) (h1 : lsR li di lj dj) (h2 : ¬ lsR lk dk lj dj) : ¬ lsR lk dk li di := by
  unfold lsR at *
  have pi := hi.abs (d := di)
  have pj := hj.abs (d := dj)
  have pk := hk.abs (d := dk)
  generalize absL li di = ai at *
  generalize absL lj dj = aj at *
  generalize absL lk dk = ak at *
  have h3 : 0 ≤ sgnP (scL di (scL dj ak ++ scL dk (negL aj))) := by rw [sgn_scl (by omega)]; omega
  have h4 : 0 ≤ sgnP (scL dk (negL (scL dj ai ++ scL di (negL aj)))) := by
    rw [sgn_scl (by omega), show sgnP (negL (scL dj ai ++ scL di (negL aj))) = -sgnP (scL dj ai ++ scL di (negL aj)) from sgn_neg2 _]
    omega
  have h5 := sgn_ge_two (l := scL dj (scL di ak ++ scL dk (negL ai))) (posN_scLq (pos_pair pk pi)) (posN_scLq (pos_pair pk pj)) (posN_scLq (posN_neg (pos_pair pi pj))) (fun p => by
    simp only [ex_append, ex_scL, ex_neg]
    grind) h3 h4
  rw [sgn_scl (by omega)] at h5
  omega
end Go.Proofs.YtmbcejldifobnaaDoor.Pc

namespace Go.Proofs.YtmbcejldifobnaaDoor.Pc
open Go.RowKit Tp Sp
theorem q_sm {a f : Nat} {t0 t : Int} {T : Tm} {D : Int} {wn : Nat} {N : List Rt} (hC : Circ D (fN T D) wn) (hN : NotesL D (fN T D) wn 12 N) (ha1 : 1 ≤ a) (ha2 : a ≤ 1000000) (h1 : -20000 ≤ t0) (h2 : t0 ≤ 50000) (h3 : -20000 ≤ t) (h4 : t ≤ 50000) (hf1 : 1 ≤ f) (hf2 : f ≤ 1000000000) {n : Nat} (hn : n ≤ 139) :
    Sm 6 (fqL a t0 t (nr N n)) ∧ Sm 7 (qL f (fqL a t0 t (nr N n)) (fqD (nr N n))) ∧ 1 ≤ fqD (nr N n) ∧ fqD (nr N n) ≤ 1000 := by
  obtain ⟨x, y, -, -, -, -, -, -, -, hR⟩ := nr_ok (n := n) hC hN (by omega)
  have hs := fq_sm hR (z3_nr hN) ha1 ha2 h1 h2 h3 h4
  have d1 := hR.d1
  have d2 := hR.d2
  have hd : 1 ≤ fqD (nr N n) ∧ fqD (nr N n) ≤ 240 := by unfold fqD; omega
  exact ⟨hs, hs.qL hf1 hf2 (by omega), hd.1, by omega⟩
theorem qok {a f : Nat} {t0 t : Int} {T : Tm} {D : Int} {wn : Nat} {N : List Rt} (hC : Circ D (fN T D) wn) (hN : NotesL D (fN T D) wn 12 N) (ha1 : 1 ≤ a) (ha2 : a ≤ 1000000) (h1 : -20000 ≤ t0) (h2 : t0 ≤ 50000) (h3 : -20000 ≤ t) (h4 : t ≤ 50000) (hf1 : 1 ≤ f) (hf2 : f ≤ 1000000000) :
    QOk (fun n => qL f (fqL a t0 t (nr N n)) (fqD (nr N n))) (fun n => fqD (nr N n)) := by
  have key := fun n (hn : n ≤ 139) => q_sm (n := n) hC hN ha1 ha2 h1 h2 h3 h4 hf1 hf2 hn
  refine ⟨fun n hn => ?_, fun n hn => ?_, fun n hn => ?_, fun n hn => ?_, fun n hn => ?_, fun n m hn hm => ?_, fun n hn => ?_, fun n hn => ?_, fun i j k hi hj hk => ?_⟩
  · have := (key n hn).2.1.1; omega
  · exact (key n hn).2.1.bd
  · exact (key n hn).2.2.1
  · exact (key n hn).2.2.2
  · exact (key n hn).2.1.pair (m := 1) (k := [(1, 1)]) ⟨by simp, fun x hx => by rw [List.mem_singleton] at hx; subst hx; decide⟩ (by omega) (key n hn).2.2.1 (key n hn).2.2.2 (by omega) (by omega)
  · exact (key n hn).2.1.abs.pair (key m hm).2.1.abs (by omega) (key n hn).2.2.1 (key n hn).2.2.2 (key m hm).2.2.1 (key m hm).2.2.2
  · intro h
    have := congrArg List.length h
    rw [negL_len] at this
    exact qL_ne _ _ _ (List.length_eq_zero_iff.1 this)
  · exact lsR_irr (key n hn).2.1
  · exact lsR_tr (key i hi).2.1 (key j hj).2.1 (key k hk).2.1 (key i hi).2.2.1 (key j hj).2.2.1 (key k hk).2.2.1
theorem Nearest_all (a f : Nat) (t0 t : Int) (T : Tm) (D : Int) (wn : Nat) (w : World) (hp : PrL w) (hst : stdE a t0 t = 0) (hl : T.ps.length = 12) (hs : T.nm.size ≤ maxLen) (hk : chkT T = 0) (hv : Vd T D wn) (ha1 : 1 ≤ a) (ha2 : a ≤ 1000000) (h1 : -20000 ≤ t0) (h2 : t0 ≤ 50000) (h3 : -20000 ≤ t) (h4 : t ≤ 50000) (hf1 : 1 ≤ f) (hf2 : f ≤ 1000000000) :
    Calls Tryd.prog 27 #[.agg #[.int .i64 (a : Int), .int .i64 t0, .int .i64 t], .agg (tmV T).toArray, .int .i64 (f : Int)] w fun r w' => (∃ (N : List Rt) (M : Nat) (m : Int), NotesL D (fN T D) wn 12 N ∧ M ≤ 139 ∧ r = .returned (.tuple #[.int .i64 (M : Int), .int .i64 m, .int .i64 0]) ∧ MilP (fun m => sgnP (scL 1200000 (qL f (fqL a t0 t (nr N M)) (fqD (nr N M))) ++ [(2, -(m * fqD (nr N M)))])) m ∧ (∀ k, k ≤ 139 → ¬ lsR (qL f (fqL a t0 t (nr N k)) (fqD (nr N k))) (fqD (nr N k)) (qL f (fqL a t0 t (nr N M)) (fqD (nr N M))) (fqD (nr N M)))) ∧ Below w.heap.size w w' := by
  have key := fun N hN n (hn : n ≤ 139) => q_sm (N := N) (n := n) hv.circ hN ha1 ha2 h1 h2 h3 h4 hf1 hf2 hn
  exact Nearest_any a f t0 t T D wn 42 w hp hst hl hs hk hv hv.circ ha1 ha2 h1 h2 h3 h4 hf1 hf2
    (fun N hN => qok hv.circ hN ha1 ha2 h1 h2 h3 h4 hf1 hf2)
    (fun N hN n hn h => by
      have := congrArg List.length h
      simp [fqL, scL, fastL] at this)
    (fun N hN n hn => by have := (key N hN n hn).1.1; show (fqL a t0 t (nr N n)).length ≤ 100; omega)
    (fun N hN n hn => (key N hN n hn).1.bd)
    (fun N hN n hn => (key N hN n hn).2.1.valid (by omega))
    (fun N hN n hn m m1 m2 => floor_ok (by have := (key N hN n hn).2.1.1; omega) (key N hN n hn).2.1.2 (key N hN n hn).2.2.1 (by have := (key N hN n hn).2.2.2; omega) m1 m2)
end Go.Proofs.YtmbcejldifobnaaDoor.Pc

namespace Go.Proofs.YtmbcejldifobnaaDoor.Pc
open Go.RowKit Tp Sp
theorem bern (x : Nat) : ∀ n, x ^ n * (x + (n + 1)) ≤ (x + 1) ^ (n + 1)
  | 0 => by simp
  | n + 1 => by
    have ih := Nat.mul_le_mul_right (x + 1) (bern x n)
    rw [← Nat.pow_succ] at ih
    refine Nat.le_trans ?_ ih
    rw [Nat.pow_succ, Nat.mul_assoc, Nat.mul_assoc]
    refine Nat.mul_le_mul_left _ ?_
    grind
theorem key_fall (f : Nat) : (f + 2) * (f * (f + 2)) ^ (f + 1) ≤ (f + 1) * ((f + 1) * (f + 1)) ^ (f + 1) := by
  have hb := bern (f * (f + 2)) f
  have e : f * (f + 2) + 1 = (f + 1) * (f + 1) := by grind
  rw [e] at hb
  refine Nat.le_trans ?_ (Nat.mul_le_mul_left (f + 1) hb)
  generalize f * (f + 2) = y at *
  rw [Nat.pow_succ]
  have h1 : (f + 2) * (y ^ f * y) = y ^ f * ((f + 2) * y) := by grind
  have h2 : (f + 1) * (y ^ f * (y + (f + 1))) = y ^ f * ((f + 1) * (y + (f + 1))) := by grind
  rw [h1, h2]
  refine Nat.mul_le_mul_left _ ?_
  grind
theorem step_fall (f : Nat) (h : 13 ≤ f) : (f + 1) ^ (2 * (f + 1)) ≤ 8 * f ^ (2 * (f + 1)) := by
  induction f with
  | zero => omega
  | succ f ih =>
    by_cases h13 : f = 12
    · subst h13; decide
    · have ih := ih (by omega)
      have hk := key_fall f
      have hk2 := Nat.mul_le_mul hk hk
      generalize hA : f ^ (2 * (f + 1)) = A at *
      have hA0 : 0 < A := by rw [← hA]; exact Nat.pow_pos (by omega)
      refine Nat.le_of_mul_le_mul_left ?_ hA0
      have e1 : A * (f + 1 + 1) ^ (2 * (f + 1 + 1)) = (f + 2) * (f * (f + 2)) ^ (f + 1) * ((f + 2) * (f * (f + 2)) ^ (f + 1)) := by
        rw [← hA, Nat.mul_pow, show 2 * (f + 1 + 1) = (f + 1) + (f + 1) + 2 by omega, show 2 * (f + 1) = (f + 1) + (f + 1) by omega]
        simp only [Nat.pow_add, Nat.pow_succ]
        grind
      have e2 : (f + 1) * ((f + 1) * (f + 1)) ^ (f + 1) * ((f + 1) * ((f + 1) * (f + 1)) ^ (f + 1)) = (f + 1) ^ (2 * (f + 1)) * (f + 1) ^ (2 * (f + 1 + 1)) := by
        rw [Nat.mul_pow, show 2 * (f + 1 + 1) = (f + 1) + (f + 1) + 2 by omega, show 2 * (f + 1) = (f + 1) + (f + 1) by omega]
        simp only [Nat.pow_add, Nat.pow_succ]
        grind
      rw [e1]
      refine Nat.le_trans hk2 ?_
      rw [e2]
      refine Nat.le_trans (Nat.mul_le_mul_right _ ih) ?_
      rw [Nat.mul_comm 8 A, Nat.mul_assoc]
      exact Nat.le_refl _
theorem step_cents (f E K : Nat) (h : 13 ≤ f) (hK : 3 * E ≤ K * (2 * (f + 1))) : (f + 1) ^ E ≤ f ^ E * 2 ^ K := by
  have h1 := step_fall f h
  have hn : 2 * (f + 1) ≠ 0 := by omega
  generalize 2 * (f + 1) = n at *
  have h2 := Nat.pow_le_pow_left h1 E
  rw [← Nat.pow_le_pow_iff_left hn]
  rw [Nat.mul_pow, ← Nat.pow_mul, ← Nat.pow_mul, ← Nat.pow_mul]
  rw [Nat.mul_pow, ← Nat.pow_mul, ← Nat.pow_mul, show (8 : Nat) = 2 ^ 3 from rfl, ← Nat.pow_mul] at h2
  rw [Nat.mul_comm E n, Nat.mul_comm (f ^ _)]
  exact Nat.le_trans h2 (Nat.mul_le_mul_right _ (Nat.pow_le_pow_right (by omega) hK))
end Go.Proofs.YtmbcejldifobnaaDoor.Pc

namespace Go.Proofs.YtmbcejldifobnaaDoor.Pc
open Go.RowKit Tp Sp
theorem posN_app {a b : List (Nat × Int)} (h : posN a) (k : posN b) : posN (a ++ b) := fun x hx => (List.mem_append.1 hx).elim (h x) (k x)
theorem posN_one {n : Nat} {x : Int} (h : 1 ≤ n) : posN [(n, x)] := fun y hy => by rw [List.mem_singleton] at hy; subst hy; exact h
theorem sgn_ones (x : Int) : 0 ≤ sgnP [(1, x)] := by rw [sgn_ge]; simp [upP, dnP]
def stp (f : Nat) : List (Nat × Int) := [(f + 1, 1), (f, -1)]
theorem stp_pos {f : Nat} (h : 1 ≤ f) : posN (stp f) := fun x hx => by
  simp only [stp, List.mem_cons, List.not_mem_nil, or_false] at hx
  rcases hx with rfl | rfl
  · show 1 ≤ f + 1; omega
  · exact h
theorem stp_ge (f : Nat) : 0 ≤ sgnP (stp f) := by rw [sgn_ge]; simp [stp, upP, dnP]
theorem stp_cents {f E K : Nat} {e k : Int} (he : e = E) (hk : k = K) (h : 13 ≤ f) (hK : 3 * E ≤ K * (2 * (f + 1))) : 0 ≤ sgnP (negL (scL e (stp f)) ++ [(2, k)]) := by
  subst he hk
  have h1 := step_cents f E K h hK
  rw [sgn_ge]
  have e1 : (-(1 * (E : Int))).toNat = 0 := by omega
  have e2 : (-(-(1 * (E : Int)))).toNat = E := by omega
  have e3 : (-(-1 * (E : Int))).toNat = E := by omega
  have e4 : (-(-(-1 * (E : Int)))).toNat = 0 := by omega
  have e5 : (-(K : Int)).toNat = 0 := by omega
  show (f + 1) ^ (-(-(1 * (E : Int)))).toNat * (f ^ (-(-(-1 * (E : Int)))).toNat * (2 ^ (-(K : Int)).toNat * 1)) ≤ (f + 1) ^ (-(1 * (E : Int))).toNat * (f ^ (-(-1 * (E : Int))).toNat * (2 ^ ((K : Int)).toNat * 1))
  rw [e1, e2, e3, e4, e5, Int.toNat_natCast]
  simpa using h1
theorem sgn_two_nn {x : Int} (h : 0 ≤ sgnP [(2, x)]) : 0 ≤ x := by
  rw [sgn_ge] at h
  apply Classical.byContradiction
  intro hx
  have e1 : x.toNat = 0 := by omega
  have h2 : 2 ^ (-x).toNat * 1 ≤ 2 ^ x.toNat * 1 := h
  rw [e1] at h2
  have h3 := Nat.one_lt_two_pow (n := (-x).toNat) (by omega)
  omega
theorem sgn_neg_ge {l : List (Nat × Int)} (h : sgnP l ≤ 0) : 0 ≤ sgnP (negL l) := by
  rw [show sgnP (negL l) = -sgnP l from sgn_neg2 l]; omega
theorem absL_or {l : List (Nat × Int)} {d : Int} (h : posN l) : (absL l d = negL l ∧ 0 ≤ sgnP (negL l)) ∨ (absL l d = l ∧ 0 ≤ sgnP l) := by
  by_cases k : sgnP (scL 1 l ++ scL d (negL [(1, 1)])) < 0
  · refine .inl ⟨if_pos k, sgn_neg_ge ?_⟩
    apply Classical.byContradiction
    intro h0
    have := sgn_ge_two (l := scL 1 l ++ scL d (negL [(1, 1)])) (posN_app (posN_scLq h) (posN_scLq (posN_neg (posN_one (by omega))))) h (posN_one (by omega)) (v := [(1, -d)]) (fun p => by
      simp only [ex_append, ex_scL, ex_neg]
      rw [ex_of p 1 (-d)]
      grind) (by omega) (sgn_ones _)
    omega
  · refine .inr ⟨if_neg k, ?_⟩
    exact sgn_ge_two (u := scL 1 l ++ scL d (negL [(1, 1)])) (v := [(1, d)]) h (posN_app (posN_scLq h) (posN_scLq (posN_neg (posN_one (by omega))))) (posN_one (by omega)) (fun p => by
      simp only [ex_append, ex_scL, ex_neg]
      rw [ex_of p 1 d]
      grind) (by omega) (sgn_ones _)
theorem near_cents {f : Nat} {ln lM : List (Nat × Int)} {dn dM m K : Int} (hf : 13 ≤ f) (pn : posN ln) (pM : posN lM) (dn1 : 1 ≤ dn) (dM1 : 1 ≤ dM) (hlo : 0 ≤ sgnP (ln ++ [(1, dn)] ++ [(f, -dn)])) (hhi : sgnP (ln ++ [(1, dn)] ++ [(f + 1, -dn)]) < 0)
    (hmin : ¬ lsR (qL f ln dn) dn (qL f lM dM) dM) (hmil : MilP (fun m => sgnP (scL 1200000 (qL f lM dM) ++ [(2, -(m * dM))])) m) (hK0 : 0 ≤ K) (hK : 1800000 ≤ K * (f + 1)) : -(K + 1) ≤ m ∧ m ≤ K := by
  have pf : posN (stp f) := stp_pos (by omega)
  have pq : ∀ l d, posN l → posN (qL f l d) := fun l d h => posN_app (posN_scLq (posN_one (by omega))) (posN_scLq (posN_neg h))
  have pa : ∀ l d, posN l → posN (absL l d) := fun l d h => by unfold absL; split; exact posN_neg h; exact h
  have pqn := pq ln dn pn
  have pqM := pq lM dM pM
  have p2 : ∀ x, posN [(2, x)] := fun x => posN_one (by omega)
  have sge : ∀ d : Int, 1 ≤ d → 0 ≤ sgnP (scL d (stp f)) := fun d hd => by rw [sgn_scl (by omega)]; exact stp_ge f
  have exs : ∀ p, ex p (stp f) = ex p [(f + 1, 1)] - ex p [(f, 1)] := fun p => by
    show ex p ([(f + 1, 1)] ++ [(f, -1)]) = _
    rw [ex_append, ex_of p f (-1)]; grind
  have exq : ∀ p l d, ex p (qL f l d) = ex p [(f, 1)] * d - ex p l := fun p l d => by
    unfold qL; rw [ex_append, ex_scL, ex_scL, ex_neg]; grind
  have hlo' : 0 ≤ sgnP (ln ++ [(f, -dn)]) := sgn_ge_two (v := [(1, -dn)]) (posN_app pn (posN_one (by omega))) (posN_app (posN_app pn (posN_one (by omega))) (posN_one (by omega))) (posN_one (by omega)) (fun p => by
    simp only [ex_append]; rw [ex_of p 1 dn, ex_of p 1 (-dn)]; grind) hlo (sgn_ones _)
  have hhi' : 0 ≤ sgnP (negL (ln ++ [(1, dn)] ++ [(f + 1, -dn)])) := sgn_neg_ge (by omega)
  have G1 : 0 ≤ sgnP (scL dn (stp f) ++ negL (absL (qL f ln dn) dn)) := by
    rcases absL_or (d := dn) pqn with ⟨e, -⟩ | ⟨e, -⟩
    · rw [e]
      exact sgn_ge_two (u := negL (ln ++ [(1, dn)] ++ [(f + 1, -dn)])) (v := [(1, dn)]) (posN_app (posN_scLq pf) (posN_neg (posN_neg pqn))) (posN_neg (posN_app (posN_app pn (posN_one (by omega))) (posN_one (by omega)))) (posN_one (by omega)) (fun p => by
        simp only [ex_append, ex_scL, ex_neg, exs, exq]; rw [ex_of p 1 dn, ex_of p (f + 1) (-dn)]; grind) hhi' (sgn_ones _)
    · rw [e]
      exact sgn_ge_two (u := scL dn (stp f)) (v := ln ++ [(f, -dn)]) (posN_app (posN_scLq pf) (posN_neg pqn)) (posN_scLq pf) (posN_app pn (posN_one (by omega))) (fun p => by
        simp only [ex_append, ex_scL, ex_neg, exs, exq]; rw [ex_of p f (-dn)]; grind) (sge dn dn1) hlo'
  have G2 : 0 ≤ sgnP (scL dM (stp f) ++ negL (absL (qL f lM dM) dM)) := by
    have h0 : 0 ≤ sgnP (scL dM (absL (qL f ln dn) dn) ++ scL dn (negL (absL (qL f lM dM) dM))) := by unfold lsR at hmin; omega
    have h1 : 0 ≤ sgnP (scL dM (scL dn (stp f) ++ negL (absL (qL f ln dn) dn))) := by rw [sgn_scl (by omega)]; exact G1
    have h2 := sgn_ge_two (l := scL dn (scL dM (stp f) ++ negL (absL (qL f lM dM) dM))) (posN_scLq (posN_app (posN_scLq pf) (posN_neg (pa _ _ pqM)))) (posN_app (posN_scLq (pa _ _ pqn)) (posN_scLq (posN_neg (pa _ _ pqM)))) (posN_scLq (posN_app (posN_scLq pf) (posN_neg (pa _ _ pqn)))) (fun p => by
      simp only [ex_append, ex_scL, ex_neg]; grind) h0 h1
    rw [sgn_scl (by omega)] at h2
    exact h2
  have Gu : 0 ≤ sgnP (scL dM (stp f) ++ negL (qL f lM dM)) := by
    rcases absL_or (d := dM) pqM with ⟨e, h0⟩ | ⟨e, h0⟩
    · exact sgn_ge_two (u := scL dM (stp f)) (v := negL (qL f lM dM)) (posN_app (posN_scLq pf) (posN_neg pqM)) (posN_scLq pf) (posN_neg pqM) (fun p => by rw [ex_append]) (sge dM dM1) h0
    · rw [e] at G2; exact G2
  have Gl : 0 ≤ sgnP (scL dM (stp f) ++ qL f lM dM) := by
    rcases absL_or (d := dM) pqM with ⟨e, h0⟩ | ⟨e, h0⟩
    · rw [e] at G2
      rw [sgn_ex (l := scL dM (stp f) ++ qL f lM dM) (l' := scL dM (stp f) ++ negL (negL (qL f lM dM))) (posN_app (posN_scLq pf) pqM) (posN_app (posN_scLq pf) (posN_neg (posN_neg pqM))) (fun p => by simp only [ex_append, ex_neg]; grind)]
      exact G2
    · exact sgn_ge_two (u := scL dM (stp f)) (v := qL f lM dM) (posN_app (posN_scLq pf) pqM) (posN_scLq pf) pqM (fun p => by rw [ex_append]) (sge dM dM1) h0
  have C : 0 ≤ sgnP (negL (scL 1200000 (stp f)) ++ [(2, K)]) := stp_cents (E := 1200000) (K := K.toNat) rfl (by omega) hf (by
    have e : (K.toNat : Int) = K := by omega
    have e2 : ((K.toNat * (f + 1) : Nat) : Int) = K * ((f : Int) + 1) := by rw [Int.natCast_mul, e]; rfl
    rw [Nat.mul_left_comm]
    generalize K.toNat * (f + 1) = P at *
    omega)
  rcases hmil with ⟨-, h0⟩ | ⟨-, -, -, h1, h2⟩
  · subst h0; omega
  · have scg : ∀ (e : Int) (l : List (Nat × Int)), 0 < e → 0 ≤ sgnP l → 0 ≤ sgnP (scL e l) := fun e l he h => by rw [sgn_scl he]; exact h
    have pC : posN (negL (scL 1200000 (stp f)) ++ [(2, K)]) := posN_app (posN_neg (posN_scLq pf)) (p2 _)
    constructor
    · have a1 := sgn_neg_ge (Int.le_of_lt h2)
      have a2 := sgn_ge_two (l := scL 1200000 (scL dM (stp f)) ++ [(2, (m + 1) * dM)]) (posN_app (posN_scLq (posN_scLq pf)) (p2 _)) (posN_neg (posN_app (posN_scLq pqM) (p2 _))) (posN_scLq (posN_app (posN_scLq pf) pqM)) (fun p => by
        simp only [ex_append, ex_scL, ex_neg]; rw [ex_of p 2 ((m + 1) * dM), ex_of p 2 (-((m + 1) * dM))]; grind) a1 (scg 1200000 _ (by omega) Gl)
      have a3 := sgn_ge_two (l := [(2, (K + m + 1) * dM)]) (p2 _) (posN_app (posN_scLq (posN_scLq pf)) (p2 _)) (posN_scLq pC) (fun p => by
        simp only [ex_append, ex_scL, ex_neg]; rw [ex_of p 2 ((K + m + 1) * dM), ex_of p 2 ((m + 1) * dM), ex_of p 2 K]; grind) a2 (scg dM _ (by omega) C)
      have a4 := Int.nonneg_of_mul_nonneg_left (sgn_two_nn a3) (by omega)
      omega
    · have a2 := sgn_ge_two (l := scL 1200000 (scL dM (stp f)) ++ [(2, -(m * dM))]) (posN_app (posN_scLq (posN_scLq pf)) (p2 _)) (posN_app (posN_scLq pqM) (p2 _)) (posN_scLq (posN_app (posN_scLq pf) (posN_neg pqM))) (fun p => by
        simp only [ex_append, ex_scL, ex_neg]; grind) h1 (scg 1200000 _ (by omega) Gu)
      have a3 := sgn_ge_two (l := [(2, (K - m) * dM)]) (p2 _) (posN_app (posN_scLq (posN_scLq pf)) (p2 _)) (posN_scLq pC) (fun p => by
        simp only [ex_append, ex_scL, ex_neg]; rw [ex_of p 2 ((K - m) * dM), ex_of p 2 (-(m * dM)), ex_of p 2 K]; grind) a2 (scg dM _ (by omega) C)
      have a4 := Int.nonneg_of_mul_nonneg_left (sgn_two_nn a3) (by omega)
      omega
end Go.Proofs.YtmbcejldifobnaaDoor.Pc

namespace Go.Proofs.YtmbcejldifobnaaDoor.Pc
open Go.RowKit Tp
theorem wpList_load_midw {P : Program} {ops : Array Oper} {rest : List Oper} {op : Oper} {a : Act} {w : World} {Q : Exit → Act → World → Prop} (hw : Region.wanted op (yielded ops a.tmps) = true) (ty : TypeId) (x : Operand) (ho : op.op = .load ty x)
    (b o : Nat) (hx : a.eval x = .pointer (some ⟨b, o, none⟩)) (cs : List Value) (d : TypeDesc) (hc : w.rangeAt b o cs)
    (hu : P.underlying ty = some d) (hd : d.isRow = true) (hi : (P.info? ty).map (·.size) = some cs.length)
    (h : wpList P ops Q rest (a.put op.dst (.agg cs.toArray)) w) : wpList P ops Q (op :: rest) a w := by
  unfold wpList
  rw [if_pos hw]
  exact Or.inl (wp_load_mid ty x ho b o hx cs d hc hu hd hi h)
/-- The cells of a case: a standard and a temperament. -/
def csV (a t0 t : Int) (T : Tm) : List Value := .int .i64 a :: .int .i64 t0 :: .int .i64 t :: tmV T
theorem cs_std {w : World} {g : Nat} {ty : TypeId} {a t0 t : Int} {T : Tm} (h : RowV w g ty (csV a t0 t T)) : w.rangeAt g 0 [.int .i64 a, .int .i64 t0, .int .i64 t] := fun j v hj => by
  refine h.all j v ?_
  match j, hj with
  | 0, hj => exact hj
  | 1, hj => exact hj
  | 2, hj => exact hj
theorem cs_tm {w : World} {g : Nat} {ty : TypeId} {a t0 t : Int} {T : Tm} (h : RowV w g ty (csV a t0 t T)) : w.rangeAt g 3 (tmV T) := fun j v hj => by
  have h1 := h.all (j + 3) v hj
  rw [Nat.zero_add] at h1
  rw [Nat.add_comm 3 j]
  exact h1
theorem szStd (a t0 t : Int) : (Tryd.prog.info? 50).map (·.size) = some ([.int .i64 a, .int .i64 t0, .int .i64 t] : List Value).length := by show _ = some 3; kernel_rfl
theorem szCs {a t0 t : Int} {T : Tm} (hl : T.ps.length = 12) : (Tryd.prog.info? 52).map (·.size) = some (csV a t0 t T).length := by
  show _ = some ((tmV T).length + 3)
  rw [tmV_len, hl]; kernel_rfl
/-- What sound returns. -/
def SndIs (E C n : Int) (b : Bool) : Prop := b = true ↔ E = 0 ∧ C = 0 ∧ 0 ≤ n ∧ n ≤ 139
set_option maxRecDepth 100000 in
set_option maxHeartbeats 1000000 in
theorem sound_any (a t0 t : Int) (T : Tm) (n : Int) (w : World) (hl : T.ps.length = 12) (hs : T.nm.size ≤ maxLen) : Calls Tryd.prog 24 #[.agg (csV a t0 t T).toArray, .int .i64 n] w fun e w' => (∃ b, e = .returned (.bool b) ∧ SndIs (stdE a t0 t) (chkT T) n b) ∧ Below w.heap.size w w' := by
  have HB := Lib.hid (belB w (.cells (csV a t0 t T).toArray 52))
  have HR := Lib.hid (RowV.of_alloc w 52 (csV a t0 t T))
  have HI1 := Lib.hid (szStd a t0 t)
  have HI2 := Lib.hid (szT hl)
  have HCK := Lib.hid (fun W => prCheck_any a t0 t W)
  have HRC := Lib.hid (fun W => Tp.rCheck_any T W hl hs)
  have HS := Lib.hid (cs_std HR.out)
  have HT := Lib.hid (fun w' (h : RowV w' w.heap.size 52 (csV a t0 t T)) => cs_tm h)
  clear hl hs
  generalize csV a t0 t T = CS at *
  generalize tmV T = L at *
  generalize stdE a t0 t = E at *
  generalize chkT T = C at *
  go_enter Tryd.func24, Tryd.ntmps24
  go_wp2_with ((show wpList _ _ _ (⟨_, .load _ _, _, _, _, _⟩ :: _) _ _); refine wpList_load_mid rfl 50 _ rfl w.heap.size 0 rfl [.int .i64 a, .int .i64 t0, .int .i64 t] _ HS.out Tryd.underlying50 rfl HI1.out ?_)
  refine (HCK.out _).mono ?_
  rintro e w1 ⟨he, hb1⟩
  subst he
  have hr1 := HR.out.up hb1
  have HB1 := Lib.hid (HB.out.trans (hb1.mono HB.out.size))
  have HT1 := Lib.hid (HT.out w1 hr1)
  clear hb1 hr1 HR HB HT HS HCK
  by_cases hE : E = 0
  · subst hE
    go_wp2_with ((show wpList _ _ _ (⟨_, .load _ _, _, _, _, _⟩ :: _) _ _); refine wpList_load_midw (by rfl) 38 _ rfl w.heap.size 3 rfl L _ HT1.out Tryd.underlying38 rfl HI2.out ?_)
    refine (HRC.out _).mono ?_
    rintro e w2 ⟨he, hb2⟩
    subst he
    have HB2 := Lib.hid (HB1.out.trans (hb2.mono HB1.out.size))
    clear hb2 HT1 HB1 HRC HI1 HI2
    by_cases hC : C = 0
    · subst hC
      by_cases h1 : 0 ≤ n
      · by_cases h2 : n ≤ 139
        · go_wp2_with fail
          go_ret
          exact ⟨⟨_, rfl, by unfold SndIs; simp [h1, h2]⟩, HB2.out⟩
        · have h2' : decide (n ≤ 139) = false := by simp [h2]
          have H2 := Lib.hid h2
          clear h2
          go_wp2_with fail
          go_ret
          exact ⟨⟨_, rfl, by have := H2.out; unfold SndIs; simp; omega⟩, HB2.out⟩
      · have h1' : decide (0 ≤ n) = false := by simp [h1]
        have H1 := Lib.hid h1
        clear h1
        go_wp2_with fail
        go_ret
        exact ⟨⟨_, rfl, by have := H1.out; unfold SndIs; simp; omega⟩, HB2.out⟩
    · have hCb : (C == 0) = false := by simp [hC]
      have HC := Lib.hid hC
      clear hC
      go_wp2_with fail
      go_ret
      exact ⟨⟨_, rfl, by have := HC.out; unfold SndIs; simp; omega⟩, HB2.out⟩
  · have hEb : (E == 0) = false := by simp [hE]
    have HE := Lib.hid hE
    clear hE
    go_wp2_with fail
    go_ret
    exact ⟨⟨_, rfl, by have := HE.out; unfold SndIs; simp; omega⟩, HB1.out⟩
end Go.Proofs.YtmbcejldifobnaaDoor.Pc

namespace Go.Proofs.YtmbcejldifobnaaDoor.Pc
open Go.RowKit Tp
set_option maxRecDepth 100000 in
set_option maxHeartbeats 2000000 in
theorem Freq_ok (a : Nat) (t0 t : Int) (T : Tm) (D : Int) (wn n : Nat) (w : World) (hp : PrL w) (hst : stdE (a : Int) t0 t = 0) (hl : T.ps.length = 12) (hs : T.nm.size ≤ maxLen) (hk : chkT T = 0) (hv : Vd T D wn) (hn : n ≤ 139) :
    Calls Tryd.prog 26 #[.agg #[.int .i64 (a : Int), .int .i64 t0, .int .i64 t], .agg (tmV T).toArray, .int .i64 (n : Int)] w fun e w' => ∃ N, NotesL D (fN T D) wn 12 N ∧ SoP w (PwF (fqL a t0 t (nr N n)) (fqD (nr N n)) 1) e w' := by
  have hst2 : stdB (a : Int) t0 t = true := by
    have h := hst
    unfold stdE at h
    split at h
    · assumption
    · cases h
  obtain ⟨hA, hT0, hT1⟩ := stdB_iff.1 hst2
  have hso : ∀ W, PrL W → Calls Tryd.prog 66 #[.agg #[.int .i64 (a : Int), .int .i64 t0, .int .i64 t], .agg (tmV T).toArray, .int .i64 (n : Int), .int .i64 1, .func (.func 67) #[] #[]] W fun e w' => ∃ N, NotesL D (fN T D) wn 12 N ∧ SoP W (PwF (fqL a t0 t (nr N n)) (fqD (nr N n)) 1) e w' := fun W hW =>
    spanOf_freq (a : Int) t0 t T D wn n 1 (fun N => fqL a t0 t (nr N n)) (fun N => fqD (nr N n)) W hW hst hl hs hk hv hn (by omega) (by omega)
      (fun N g W hN hg h => freq_ok a t0 t g n N W h hv.circ hN hn hg (by omega) (by omega) hT0.1 hT0.2 hT1.1 hT1.2)
      (fun N hN => by
        obtain ⟨x, y, e1, e2, e, d1, d2, a1, a2, hR⟩ := nr_ok (n := n) hv.circ hN (by omega)
        have r1 := hR.d1
        have r2 := hR.d2
        exact ⟨fq_valid hR (by omega) (by omega) hT0.1 hT0.2 hT1.1 hT1.2, by unfold fqD; omega, by unfold fqD; omega, fq_no hR (by omega) (by omega) hT0.1 hT0.2 hT1.1 hT1.2 (by omega) (by omega)⟩)
  have HSO := Lib.hid hso
  have HPR := Lib.hid hp
  have HI2 := Lib.hid (szT hl)
  have r1 : RowV ((w.alloc (.cells #[.int .i64 (a : Int), .int .i64 t0, .int .i64 t] 50)).alloc (.cells (tmV T).toArray 38)) (w.heap.size + 1) 38 (tmV T) := by
    have h := RowV.of_alloc (w.alloc (.cells #[.int .i64 (a : Int), .int .i64 t0, .int .i64 t] 50)) 38 (tmV T)
    rw [World.size_alloc] at h
    exact h
  have r2 : RowV (((w.alloc (.cells #[.int .i64 (a : Int), .int .i64 t0, .int .i64 t] 50)).alloc (.cells (tmV T).toArray 38)).alloc (.cells #[.int .i64 0, .int .i64 0] 55)) (w.heap.size + 1 + 1) 55 [.int .i64 0, .int .i64 0] := by
    have h := RowV.of_alloc ((w.alloc (.cells #[.int .i64 (a : Int), .int .i64 t0, .int .i64 t] 50)).alloc (.cells (tmV T).toArray 38)) 55 [.int .i64 0, .int .i64 0]
    rw [World.size_alloc, World.size_alloc] at h
    exact h
  have HB := Lib.hid (((belB w (.cells #[.int .i64 (a : Int), .int .i64 t0, .int .i64 t] 50)).alloc (by simp) (.cells (tmV T).toArray 38)).alloc (by simp; omega) (.cells #[.int .i64 0, .int .i64 0] 55))
  have HR2 := Lib.hid r2
  have HR1 := Lib.hid (r1.alloc (.cells #[.int .i64 0, .int .i64 0] 55))
  clear hso hp hst hst2 hA hT0 hT1 hl hs hk hv r1 r2
  go_enter Tryd.func26, Tryd.ntmps26
  go_wp2_with ((show wpList _ _ _ (⟨_, .load _ _, _, _, _, _⟩ :: _) _ _); refine wpList_load_mid rfl 38 _ rfl (w.heap.size + 1) 0 rfl (tmV T) _ HR1.out.all Tryd.underlying38 rfl HI2.out ?_)
  refine (HSO.out _ (HPR.out.below HB.out)).mono ?_
  rintro e u1 ⟨N, hN, m, k, hm, he, hb1⟩
  subst he
  have r5 := HR2.out.up hb1
  have c0 := RowV.c0 r5
  have c1 := RowV.c1 r5
  have z0 := RowV.z (i := 0) r5
  have z1 := RowV.z (i := 1) r5
  have B5 := Lib.hid (HB.out.trans (hb1.mono HB.out.size))
  have HM := Lib.hid hm
  have HN := Lib.hid hN
  clear r5 hb1 hm hN HB HR1 HR2 HSO
  go_wp2
  refine bodyPost_ret (v := .tuple #[.agg #[.int .i64 m, .int .i64 k], .int .i64 0]) (Tp.results_cell_tmp (a := 6) (b := 7) rfl rfl (load_iv ?_ ?_)) rfl ⟨N, HN.out, m, k, HM.out, rfl, (B5.out.setCell (by show w.heap.size ≤ w.heap.size + 1 + 1; omega) _).setCell (by show w.heap.size ≤ w.heap.size + 1 + 1; omega) _⟩
  · rw [World.cell?_setCell_other _ _ _ _ (by simp), World.cell?_setCell_same _ _ _ c0]
  · exact World.cell?_setCell_same _ _ _ ((World.cell?_setCell_other _ _ _ _ (by simp)).trans c1)
end Go.Proofs.YtmbcejldifobnaaDoor.Pc

namespace Go.Proofs.YtmbcejldifobnaaDoor.Pc
open Go.RowKit Tp Sp
theorem posN_zl3 (v : V6) : posN v.zl := fun x hx => by
  have e : v.zl = [(2, v.a), (3, v.b), (5, v.c), (7, v.d), (11, v.e), (13, v.f)] := rfl
  rw [e] at hx
  simp only [List.mem_cons, List.not_mem_nil, or_false] at hx
  rcases hx with rfl | rfl | rfl | rfl | rfl | rfl <;> simp
theorem low_base {a x y : Nat} (ha : 100000 ≤ a) (hx : 253150 ≤ x) (hy : y ≤ 323150) : 0 ≤ sgnP [(a, 2), (2, -14), (x, 1), (y, -1), (13, -2)] := by
  rw [sgn_ge]
  show a ^ 0 * (2 ^ 14 * (x ^ 0 * (y ^ 1 * (13 ^ 2 * 1)))) ≤ a ^ 2 * (2 ^ 0 * (x ^ 1 * (y ^ 0 * (13 ^ 0 * 1))))
  have h1 : 100000 ^ 2 ≤ a ^ 2 := Nat.pow_le_pow_left ha 2
  have h2 := Nat.mul_le_mul h1 hx
  simp only [Nat.pow_zero, Nat.one_mul, Nat.mul_one, Nat.pow_one]
  omega
theorem fq_low {a : Nat} {t0 t : Int} {R : Rt} (hR : ROk R) (ha : 100000 ≤ a) (ha2 : a ≤ 1000000) (h1 : -20000 ≤ t0) (h2 : t0 ≤ 50000) (h3 : -20000 ≤ t) (h4 : t ≤ 50000) : 0 ≤ PwF (fqL a t0 t R) (fqD R) 1 13 := by
  unfold PwF
  rw [if_neg (by decide)]
  have d1 := hR.d1
  have hlo := hR.lo
  have b1 := low_base (a := a) (x := (273150 + t).toNat) (y := (273150 + t0).toNat) ha (by omega) (by omega)
  have pl := fq_pos hR (by omega) ha2 h1 h2 h3 h4
  have po : ∀ (n : Nat) (x : Int), 1 ≤ n → posN [(n, x)] := fun n x h => posN_one h
  have pb : posN [(a, 2), (2, -14), ((273150 + t).toNat, 1), ((273150 + t0).toNat, -1), (13, -2)] := fun x hx => by
    simp only [List.mem_cons, List.not_mem_nil, or_false] at hx
    rcases hx with rfl | rfl | rfl | rfl | rfl <;> simp only <;> omega
  have c1 : 0 ≤ sgnP (scL 2 (R.v.two (7 * R.d)).zl) := by rw [sgn_scl (by omega)]; exact hlo
  have c2 : 0 ≤ sgnP (scL R.d [(a, 2), (2, -14), ((273150 + t).toNat, 1), ((273150 + t0).toNat, -1), (13, -2)]) := by rw [sgn_scl (by omega)]; exact b1
  have e5 : ∀ p, ex p [(a, 2), (2, -14), ((273150 + t).toNat, 1), ((273150 + t0).toNat, -1), (13, -2)] = ex p [(a, 1)] * 2 + (ex p [(2, 1)] * (-14) + (ex p (fastL t0 t) + ex p [(13, 1)] * (-2))) := fun p => by
    show ex p ([(a, 2)] ++ ([(2, -14)] ++ (fastL t0 t ++ [(13, -2)]))) = _
    rw [ex_append, ex_append, ex_append, ex_of p a 2, ex_of p 2 (-14), ex_of p 13 (-2)]
  have c3 := sgn_ge_two (l := fqL a t0 t R ++ [(13, -fqD R)]) (posN_app pl (po _ _ (by omega))) (posN_scLq (posN_zl3 _)) (posN_scLq pb) (fun p => by
    rw [ex_append, ex_fq, ex_scL, ex_scL, ex_two, e5, ex_of p 13 (-fqD R)]
    unfold fqD
    rw [ex_single p 2 1]
    by_cases hp : 2 = p
    · simp only [if_pos hp]; grind
    · simp only [if_neg hp]; grind) c1 c2
  exact sgn_ge_two (u := fqL a t0 t R ++ [(13, -fqD R)]) (v := [(1, fqD R)]) (posN_app (posN_app pl (po _ _ (by omega))) (po _ _ (by decide))) (posN_app pl (po _ _ (by omega))) (po _ _ (by omega)) (fun p => by
    rw [show ((13 : Int).toNat) = 13 from rfl]
    simp only [ex_append]; grind) c3 (sgn_ones _)
end Go.Proofs.YtmbcejldifobnaaDoor.Pc

namespace Go.Proofs.YtmbcejldifobnaaDoor.Pc
open Go.RowKit Tp
theorem std0_chk : chkT std0 = 0 := by decide +kernel
theorem std0_lc : lcL std0.ps = 12 := by decide +kernel
theorem std0_vd : Vd std0 12 11 := by
  obtain ⟨D, wn, hD, hv⟩ := chk_vd (T := std0) rfl std0_chk
  rw [std0_lc] at hD
  obtain rfl : D = 12 := hD
  have h1 : (11 : Int) = (wn : Int) := hv.wo
  obtain rfl : wn = 11 := by omega
  exact hv
theorem e_s0 : PS (FF 12 (fN std0 12) 11) 0 = octV 0 := rfl
theorem e_s3 : PS (FF 12 (fN std0 12) 11) 3 = octV 21 := rfl
theorem e_k0 : FlIs (octV 0) 1 12 0 := ⟨by unfold Fl; exact Sg_up _ (by decide), by unfold Fl Sg; rw [sgn_lt]; decide⟩
theorem e_k3 : FlIs (octV 21) 1 12 1 := ⟨by unfold Fl; exact Sg_up _ (by decide), by unfold Fl Sg; rw [sgn_lt]; decide⟩
theorem note_eq {i : Nat} {r : Rt} {v u : V6} {K : Int} (h : NoteIs 12 (fN std0 12) 11 i r) (hv : PS (FF 12 (fN std0 12) 11) i = v) (hK : FlIs v 1 12 K) (hu : v.two (-(K * 12)) = u) : r = lowR u 12 := by
  obtain ⟨k, hk, e⟩ := h
  rw [hv] at hk e
  have := hk.unique (by omega) hK
  subst this
  rw [e, hu]
theorem nr60 {N : List Rt} (hN : NotesL 12 (fN std0 12) 11 12 N) : nr N 60 = ⟨octV (-3), 4⟩ := by
  obtain ⟨x, e1, hx⟩ := hN.at (c := 0) (by omega)
  obtain ⟨y, e2, hy⟩ := hN.at (c := 9) (by omega)
  have h1 := note_eq hx e_s0 e_k0 (u := octV 0) rfl
  have h2 := note_eq hy e_s3 e_k3 (u := octV 9) rfl
  unfold nr
  rw [show 60 % 12 = 0 from rfl, e1, e2, h1, h2]
  exact (by kernel_rfl : noR (lowR (octV 0) 12) (lowR (octV 9) 12) 60 = ⟨octV (-3), 4⟩)
theorem nr69 {N : List Rt} (hN : NotesL 12 (fN std0 12) 11 12 N) : nr N 69 = ⟨octV 0, 1⟩ := by
  obtain ⟨y, e2, hy⟩ := hN.at (c := 9) (by omega)
  have h2 := note_eq hy e_s3 e_k3 (u := octV 9) rfl
  unfold nr
  rw [show 69 % 12 = 9 from rfl, e2, h2]
  exact (by kernel_rfl : noR (lowR (octV 9) 12) (lowR (octV 9) 12) 69 = ⟨octV 0, 1⟩)
theorem span_val {F : Int → Int} {m k c : Int} (aF : ∀ x y, 0 ≤ x → x < y → 0 ≤ F y → 0 < F x) (h : SpanIs F m k) (h0 : 0 ≤ c) (h1 : 0 < F c) (h2 : F (c + 1) < 0) : m = c ∧ k = c + 1 := by
  obtain ⟨f1, f2, f3, f4, f5⟩ := h
  have a1 : c ≤ m := by
    rcases Int.lt_or_le m c with hc | hc
    · rcases Int.lt_or_le (m + 1) c with hc2 | hc2
      · have := aF (m + 1) c (by omega) hc2 (by omega); omega
      · have e : m + 1 = c := by omega
        rw [e] at f4; omega
    · exact hc
  have a2 : m ≤ c := by
    rcases Int.lt_or_le c m with hc | hc
    · rcases Int.lt_or_le (c + 1) m with hc2 | hc2
      · have := aF (c + 1) m (by omega) hc2 f3; omega
      · have e : m = c + 1 := by omega
        rw [e] at f3; omega
    · exact hc
  have e : m = c := by omega
  subst e
  omega
theorem drift_val {m : Int} (h : CtP (fastL 15000 20000) 2 m) : m = 14891 := by
  have k1 : 0 ≤ CtF (fastL 15000 20000) 2 14891 := by decide +kernel
  have k2 : CtF (fastL 15000 20000) 2 14892 < 0 := by decide +kernel
  have an : ∀ a b : Int, a ≤ b → 0 ≤ CtF (fastL 15000 20000) 2 b → 0 ≤ CtF (fastL 15000 20000) 2 a := fun a b hab hb => floor_anti (a := a * 2) (b := b * 2) (by omega) hb
  rcases h with ⟨h1, -⟩ | ⟨h1, h2, h3, h4⟩
  · exfalso
    rcases h1 with h1 | h1
    · have := an (-1000000000000) 14891 (by omega) k1; omega
    · have := an 14892 1000000000001 (by omega) h1; omega
  · have a1 : ¬ m < 14891 := fun hc => by have := an (m + 1) 14891 (by omega) k1; omega
    have a2 : ¬ 14891 < m := fun hc => by have := an 14892 m (by omega) h3; omega
    omega
theorem freq60 {N : List Rt} {m k : Int} (hN : NotesL 12 (fN std0 12) 11 12 N) (h : SpanIs (PwF (fqL 440000 15000 15000 (nr N 60)) (fqD (nr N 60)) 1) m k) : m = 261625 ∧ k = 261626 := by
  rw [nr60 hN] at h
  exact span_val (fun x y h1 h2 h3 => PwF_anti (fun x hx => by revert x; decide +kernel) (by decide +kernel) (by omega) h1 h2 h3) h (by omega) (by decide +kernel) (by decide +kernel)
theorem freq69 {N : List Rt} {m k : Int} (hN : NotesL 12 (fN std0 12) 11 12 N) (h : SpanIs (PwF (fqL 440000 15000 20000 (nr N 69)) (fqD (nr N 69)) 1) m k) : m = 443801 ∧ k = 443802 := by
  rw [nr69 hN] at h
  exact span_val (fun x y h1 h2 h3 => PwF_anti (fun x hx => by revert x; decide +kernel) (by decide +kernel) (by omega) h1 h2 h3) h (by omega) (by decide +kernel) (by decide +kernel)
end Go.Proofs.YtmbcejldifobnaaDoor.Pc

namespace Go.Proofs.YtmbcejldifobnaaDoor.Tp
open Go.RowKit
theorem tmV_set {T : Tm} {q : Nat} {n0 d0 : Int} (n d : Int) (h : T.ps[q]? = some (n0, d0)) : ((tmV T).set (3 + q * 2) (.int .i64 n)).set (3 + q * 2 + 1) (.int .i64 d) = tmV ⟨T.nm, T.sy, T.wo, T.ps.set q (n, d)⟩ := by
  have e : ∀ (a b c : Value) (L : List Value) (k : Nat) (v : Value), (a :: b :: c :: L).set (3 + k) v = a :: b :: c :: L.set k v := fun a b c L k v => by rw [show 3 + k = k + 1 + 1 + 1 by omega]; rfl
  unfold tmV
  rw [e, show 3 + q * 2 + 1 = 3 + (q * 2 + 1) by omega, e, fl2_set0 n h]
  have h2 : (T.ps.set q (n, d0))[q]? = some (n, d0) := List.getElem?_set_self (List.getElem?_eq_some_iff.1 h).1
  rw [fl2_set d h2, List.set_set]
theorem tmV_put (T : Tm) (h : T.ps.length = 12) : (tmV tm0).take 0 ++ tmV T ++ (tmV tm0).drop (0 + (tmV T).length) = tmV T := by
  rw [List.drop_eq_nil_of_le (by rw [tmV_len, tmV_len, h]; decide)]; simp
end Go.Proofs.YtmbcejldifobnaaDoor.Tp

namespace Go.Proofs.YtmbcejldifobnaaDoor.Tp
open Go.RowKit
def MaRel (w : World) (nm : ByteArray) (sy : Bool) (wo : Int) (iv : Value) (wr : World) : Prop := ∃ i : Nat, i ≤ 12 ∧ iv = .int .i64 (i : Int) ∧ RowV wr w.heap.size 38 (tmV tm0) ∧ RowV wr (w.heap.size + 1) 38 (tmV ⟨nm, sy, wo, onesP i⟩) ∧ Below w.heap.size w wr
def MbRel (w : World) (nm : ByteArray) (sy : Bool) (wo den : Int) (L : List Nat) (iv : Value) (wr : World) : Prop := ∃ j : Nat, j ≤ L.length ∧ iv = .int .i64 (j : Int) ∧ RowV wr w.heap.size 38 (tmV tm0) ∧ RowV wr (w.heap.size + 1) 38 (tmV ⟨nm, sy, wo, narP den (L.take j)⟩) ∧ Below w.heap.size w wr
set_option maxRecDepth 100000 in
set_option maxHeartbeats 4000000 in
theorem made_any (nm : ByteArray) (sy : Bool) (wo den : Int) (L : List Nat) (A : Option Addr) (cap : Nat) (w : World) (hL : L.length ≤ 12) (h12 : ∀ x ∈ L, x < 12)
    (hA : ∀ j x : Nat, L[j]? = some x → ∃ g, A = some ⟨g, 0, none⟩ ∧ g < w.heap.size ∧ w.cell? ⟨g, j, none⟩ = some (.int .i64 (x : Int))) :
    Calls Tryd.prog 128 #[.string nm, .bool sy, .int .i64 wo, .int .i64 den, .slice A L.length cap] w fun e w' => e = .returned (.agg (tmV ⟨nm, sy, wo, narP den L⟩).toArray) ∧ Below w.heap.size w w' := by
  have hz := zero26
  have hr0 : RowV ((w.alloc (.cells (tmV tm0).toArray 38)).alloc (.cells (tmV tm0).toArray 38)) w.heap.size 38 (tmV tm0) := (RowV.of_alloc w 38 (tmV tm0)).alloc _
  have hr1 : RowV ((w.alloc (.cells (tmV tm0).toArray 38)).alloc (.cells (tmV tm0).toArray 38)) (w.heap.size + 1) 38 (tmV tm0) := by
    have h := RowV.of_alloc (w.alloc (.cells (tmV tm0).toArray 38)) 38 (tmV tm0)
    rw [World.size_alloc] at h
    exact h
  have hb : Below w.heap.size w ((w.alloc (.cells (tmV tm0).toArray 38)).alloc (.cells (tmV tm0).toArray 38)) := (belB w _).alloc (by simp) _
  obtain ⟨TM, hTM⟩ : ∃ TM : Tm, TM = ⟨nm, sy, wo, onesP 0⟩ := ⟨_, rfl⟩
  have htl : TM.ps.length = 12 := by rw [hTM]; rfl
  have HBT : Hid (Tryd.prog.built 38 [(0, .string nm), (1, .bool sy), (2, .int .i64 wo)] = some (tmV TM).toArray) := Lib.hid (by rw [hTM]; kernel_rfl)
  have hth := hr1.there (o := 0) (n := (tmV TM).toArray.size) (by rw [List.size_toArray, tmV_len, tmV_len, htl]; decide)
  have h1 := hr1.setCells (tmV TM) 0 _ _ (by rw [tmV_len, tmV_len, htl]; decide)
  rw [tmV_put TM htl, hTM] at h1
  have h0 : RowV (((w.alloc (.cells (tmV tm0).toArray 38)).alloc (.cells (tmV tm0).toArray 38)).setCells (w.heap.size + 1) 0 (tmV TM)) w.heap.size 38 (tmV tm0) :=
    (RowV.of_alloc w 38 (tmV tm0)).up (below_setCells (g := w.heap.size + 1) (tmV TM) 0 _ (belB (w.alloc (.cells (tmV tm0).toArray 38)) (.cells (tmV tm0).toArray 38)) (by simp))
  have hb2 := below_setCells (g := w.heap.size + 1) (tmV TM) 0 _ hb (by omega)
  have HSZM := Lib.hid (szT (T := TM) htl)
  rw [← hTM] at h1
  have HTM := Lib.hid hTM
  have HTH := Lib.hid hth
  have HR0 := Lib.hid h0
  have HR1 := Lib.hid h1
  have HB := Lib.hid hb2
  have HLL := Lib.hid hL
  have H12 := Lib.hid h12
  have HAA := Lib.hid hA
  have hLI : (L.length : Int) ≤ 12 := by omega
  clear hr0 hr1 hb hL h12 hA hTM htl hth h1 h0 hb2
  go_enter Tryd.func128, Tryd.ntmps128
  go_wp2_with (first | ((show wpList _ _ _ (⟨_, .build _ _, _, _, _, _⟩ :: _) _ _); refine wpList_built rfl 38 _ rfl (tmV TM).toArray [(0, .string nm), (1, .bool sy), (2, .int .i64 wo)] (by rw [List.map_toArray]; rfl) HBT.out ?_) | ((show wpList _ _ _ (⟨_, .store _ _ _, _, _, _, _⟩ :: _) _ _); refine wpList_store_mid rfl 38 _ _ rfl (w.heap.size + 1) 0 (tmV TM).toArray rfl rfl HTH.out HSZM.out (oneT TM) ?_))
  go_loopw [12] (fun iv wr => MaRel w nm sy wo iv wr) (fun iv _ => 12 - (intOf iv).toNat)
  case atStart => exact ⟨0, Nat.zero_le _, rfl, HR0.out, by have h := HR1.out; rw [HTM.out] at h; rw [HTM.out]; exact h, HB.out⟩
  case round =>
    clear HR0 HR1 HB HTH HBT HSZM
    obtain ⟨i, hi, rfl, h0, h1, hb⟩ := hrel
    have H0 := Lib.hid h0
    have H1 := Lib.hid h1
    have HB := Lib.hid hb
    clear h0 h1 hb
    by_cases hil : i < 12
    · have hilI : (i : Int) < 12 := by omega
      obtain ⟨c3, c4⟩ := part_cells (T := ⟨nm, sy, wo, onesP i⟩) H1.out (onesP_at hil)
      have e : wr.heap[w.heap.size + 1]? = some (.cells (tmV ⟨nm, sy, wo, onesP i⟩).toArray 38 (0, 0)) := H1.out
      have z3 : wr.frozen? ⟨w.heap.size + 1, 3 + i * 2, none⟩ = false := by unfold World.frozen?; simp only [e]; rfl
      have z4 : wr.frozen? ⟨w.heap.size + 1, 3 + i * 2 + 1, none⟩ = false := by unfold World.frozen?; simp only [e]; rfl
      clear e
      go_wp2
      refine ⟨⟨i + 1, by omega, by go_num, ?_, ?_, (HB.out.setCell (show w.heap.size ≤ w.heap.size + 1 by omega) _).setCell (show w.heap.size ≤ w.heap.size + 1 by omega) _⟩, by simp [intOf]; omega⟩
      · exact (setCell_heap (Nat.ne_of_lt (by omega))).trans ((setCell_heap (Nat.ne_of_lt (by omega))).trans H0.out)
      · have h := (H1.out.setCell (3 + i * 2) (.int .i64 0)).setCell (3 + i * 2 + 1) (.int .i64 1)
        rw [tmV_set (T := ⟨nm, sy, wo, onesP i⟩) 0 1 (onesP_at hil)] at h
        simp only [onesP_set hil] at h
        exact h
    · obtain rfl : i = 12 := by omega
      go_wp2
      go_loopw [13] (fun iv wr => MbRel w nm sy wo den L iv wr) (fun iv _ => L.length - (intOf iv).toNat)
      case atStart => exact ⟨0, Nat.zero_le _, rfl, H0.out, H1.out, HB.out⟩
      case round =>
        clear H0 H1 HB
        obtain ⟨j, hj, rfl, h0, h1, hb⟩ := hrel
        have H0 := Lib.hid h0
        have H1 := Lib.hid h1
        have HB := Lib.hid hb
        clear h0 h1 hb
        by_cases hjl : j < L.length
        · obtain ⟨x, hx⟩ : ∃ x, L[j]? = some x := ⟨L[j], List.getElem?_eq_getElem _⟩
          have hx12 := H12.out x (List.mem_of_getElem? hx)
          obtain ⟨g, rfl, hg, hc⟩ := HAA.out j x hx
          have hxI : (x : Int) < 12 := by omega
          have hc2 : wr.cell? ⟨g, j, none⟩ = some (.int .i64 (x : Int)) := by rw [HB.out.cell (p := ⟨g, j, none⟩) hg]; exact hc
          obtain ⟨⟨n0, d0⟩, hp⟩ : ∃ p, (narP den (L.take j))[x]? = some p := ⟨(narP den (L.take j))[x]'(by rw [narP_len]; exact hx12), List.getElem?_eq_getElem _⟩
          obtain ⟨c3, c4⟩ := part_cells (T := ⟨nm, sy, wo, narP den (L.take j)⟩) H1.out hp
          have e : wr.heap[w.heap.size + 1]? = some (.cells (tmV ⟨nm, sy, wo, narP den (L.take j)⟩).toArray 38 (0, 0)) := H1.out
          have z3 : wr.frozen? ⟨w.heap.size + 1, 3 + x * 2, none⟩ = false := by unfold World.frozen?; simp only [e]; rfl
          have z4 : wr.frozen? ⟨w.heap.size + 1, 3 + x * 2 + 1, none⟩ = false := by unfold World.frozen?; simp only [e]; rfl
          have hjI : (j : Int) < (L.length : Int) := by omega
          have HXX := Lib.hid hx
          have HPP := Lib.hid hp
          clear e hx hp hc
          go_wp2
          refine ⟨⟨j + 1, by omega, by go_num, ?_, ?_, (HB.out.setCell (show w.heap.size ≤ w.heap.size + 1 by omega) _).setCell (show w.heap.size ≤ w.heap.size + 1 by omega) _⟩, by simp [intOf]; omega⟩
          · exact (setCell_heap (Nat.ne_of_lt (by omega))).trans ((setCell_heap (Nat.ne_of_lt (by omega))).trans H0.out)
          · have h := (H1.out.setCell (3 + x * 2) (.int .i64 1)).setCell (3 + x * 2 + 1) (.int .i64 den)
            rw [tmV_set (T := ⟨nm, sy, wo, narP den (L.take j)⟩) 1 den HPP.out] at h
            simp only [← narP_take HXX.out] at h
            exact h
        · obtain rfl : j = L.length := by omega
          have h1 := H1.out
          rw [List.take_length] at h1
          obtain ⟨TF, hTF⟩ : ∃ TF : Tm, TF = ⟨nm, sy, wo, narP den L⟩ := ⟨_, rfl⟩
          have htl : TF.ps.length = 12 := by rw [hTF]; exact narP_len den L
          rw [← hTF] at h1
          have hsz := szT htl
          have hth : wr.there w.heap.size 0 (tmV TF).toArray.size := H0.out.there (by rw [List.size_toArray, tmV_len, tmV_len, htl]; decide)
          have hr4 := H0.out.setCells (tmV TF) 0 _ _ (by rw [tmV_len, tmV_len, htl]; decide)
          rw [tmV_put _ htl] at hr4
          have H1A := Lib.hid h1.all
          have HSZ := Lib.hid hsz
          have HTH := Lib.hid hth
          have HR4 := Lib.hid hr4
          have HTF := Lib.hid hTF
          clear h1 hsz hth hr4 H1 htl hTF
          go_wp2_with (first | ((show wpList _ _ _ (⟨_, .load _ _, _, _, _, _⟩ :: _) _ _); refine wpList_load_mid rfl 38 _ rfl (w.heap.size + 1) 0 rfl (tmV TF) _ H1A.out Tryd.underlying38 rfl HSZ.out ?_) | ((show wpList _ _ _ (⟨_, .store _ _ _, _, _, _, _⟩ :: _) _ _); refine wpList_store_mid rfl 38 _ _ rfl w.heap.size 0 (tmV TF).toArray rfl rfl HTH.out HSZ.out (oneT _) ?_))
          exact bodyPost_ret (v := .agg (tmV TF).toArray) (results_cell rfl rfl (run_loadVar_mid _ _ 0 _ _ _ HR4.out.all Tryd.underlying38 rfl HSZ.out)) rfl ⟨by rw [HTF.out], below_setCells _ _ _ HB.out (Nat.le_refl _)⟩
end Go.Proofs.YtmbcejldifobnaaDoor.Tp

namespace Go.Proofs.YtmbcejldifobnaaDoor.Tp
open Go.RowKit
set_option maxRecDepth 100000 in
set_option maxHeartbeats 1000000 in
theorem rStandard0 (w : World) : Calls Tryd.prog 71 #[.string ⟨#[101, 113, 117, 97, 108]⟩] w fun e w' => e = .returned (.tuple #[.agg (tmV std0).toArray, .int .i64 0]) ∧ Below w.heap.size w w' := by
  have hz := zero26
  have hr0 : RowV ((w.alloc (.cells (tmV tm0).toArray 38)).alloc (.cells #[.int .i64 0, .int .i64 1, .int .i64 2, .int .i64 3, .int .i64 4, .int .i64 5, .int .i64 6, .int .i64 7, .int .i64 8, .int .i64 9, .int .i64 10] 3)) w.heap.size 38 (tmV tm0) := (RowV.of_alloc w 38 (tmV tm0)).alloc _
  have hb0 : Below w.heap.size w ((w.alloc (.cells (tmV tm0).toArray 38)).alloc (.cells #[.int .i64 0, .int .i64 1, .int .i64 2, .int .i64 3, .int .i64 4, .int .i64 5, .int .i64 6, .int .i64 7, .int .i64 8, .int .i64 9, .int .i64 10] 3)) := ((belB w _).alloc (by simp) _)
  have hw1 : RowI ((w.alloc (.cells (tmV tm0).toArray 38)).alloc (.cells #[.int .i64 0, .int .i64 1, .int .i64 2, .int .i64 3, .int .i64 4, .int .i64 5, .int .i64 6, .int .i64 7, .int .i64 8, .int .i64 9, .int .i64 10] 3)) (w.heap.size + 1) 3 [0, 1, 2, 3, 4, 5, 6, 7, 8, 9, 10] := by
    have h := RowI.of_alloc (w.alloc (.cells (tmV tm0).toArray 38)) 3 [0, 1, 2, 3, 4, 5, 6, 7, 8, 9, 10]
    rw [World.size_alloc] at h
    exact h
  have hn := made_any ⟨#[101, 113, 117, 97, 108]⟩ false 11 12 [0, 1, 2, 3, 4, 5, 6, 7, 8, 9, 10] (some ⟨w.heap.size + 1, 0, none⟩) 11 ((w.alloc (.cells (tmV tm0).toArray 38)).alloc (.cells #[.int .i64 0, .int .i64 1, .int .i64 2, .int .i64 3, .int .i64 4, .int .i64 5, .int .i64 6, .int .i64 7, .int .i64 8, .int .i64 9, .int .i64 10] 3)) (by decide) (by decide) (fun j x hx => ⟨w.heap.size + 1, rfl, hw1.lt, by
    refine hw1.cell (i := j) ?_
    have h2 : ([0, 1, 2, 3, 4, 5, 6, 7, 8, 9, 10].map (fun x : Nat => (x : Int)))[j]? = some (x : Int) := by rw [List.getElem?_map, hx]; rfl
    exact h2⟩)
  have e0 : (⟨⟨#[101, 113, 117, 97, 108]⟩, false, 11, narP 12 [0, 1, 2, 3, 4, 5, 6, 7, 8, 9, 10]⟩ : Tm) = std0 := rfl
  rw [e0] at hn
  have HN := Lib.hid hn
  have HR0 := Lib.hid hr0
  have HB0 := Lib.hid hb0
  have HSZ := Lib.hid (szT (T := std0) rfl)
  clear hw1
  clear hn hr0 hb0 e0
  go_enter Tryd.func71, Tryd.ntmps71
  go_wp2_with fail
  refine HN.out.mono ?_
  rintro e w1 ⟨he, hb1⟩
  subst he
  have hr := HR0.out.up hb1
  have hb := HB0.out.trans (hb1.mono HB0.out.size)
  have hth : w1.there w.heap.size 0 27 := hr.there (by rw [tmV_len]; exact Nat.le_refl _)
  have hr4 := hr.setCells (tmV std0) 0 _ _ (by rw [tmV_len, tmV_len]; exact Nat.le_refl _)
  have HTH := Lib.hid hth
  have HB := Lib.hid hb
  have HR4 : Hid (RowV (w1.setCells w.heap.size 0 (tmV std0)) w.heap.size 38 (tmV std0)) := Lib.hid hr4
  clear hr hb hb1 hth hr4 HN HR0 HB0
  go_wp2_with ((show wpList _ _ _ (⟨_, .store _ _ _, _, _, _, _⟩ :: _) _ _); refine wpList_store_mid rfl 38 _ _ rfl w.heap.size 0 (tmV std0).toArray rfl rfl HTH.out HSZ.out (oneT _) ?_)
  exact bodyPost_ret (v := .tuple #[.agg (tmV std0).toArray, .int .i64 0]) (results_cell_tmp (a := 2) (b := 3) rfl rfl (run_loadVar_mid _ _ 0 _ (tmV std0) _ HR4.out.all Tryd.underlying38 rfl HSZ.out)) rfl ⟨rfl, below_setCells _ _ _ HB.out (Nat.le_refl _)⟩
end Go.Proofs.YtmbcejldifobnaaDoor.Tp

namespace Go.Proofs.YtmbcejldifobnaaDoor
open Go.RowKit
/-- A proposition shut in. -/
structure Boxd (p : Prop) : Prop where
  out : p
end Go.Proofs.YtmbcejldifobnaaDoor
