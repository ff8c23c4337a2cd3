import Derived.Test.YtokkcmadgcdpiaaDoorKD1
import Derived.Test.YtokkcmadgcdpiaaDoorCards
import Derived.OpenShut
import Derived.Lib.LaidTab
import Derived.Lib.SmallJoins
import Derived.Carry
import Derived.ProofKit
import Derived.Deep.DeepHandedRow
import Derived.Deep.SlicePairs
import Derived.Deep.Slices
import Derived.Deep.Fields
import Derived.ChangeSame
namespace Go.Proofs.YtokkcmadgcdpiaaDoor
open Go.ChangeShapes Go.WideShapes Go.ChangeAt Go.RowKit Go.Deep

/-! The frame of the laws on ratios: what is laid, the arguments, the post. -/
theorem own : ownKnob Tryd.prog.godebug = none := by kernel_rfl
theorem laidOut : laidOutB Tryd.prog = true := by kernel_rfl
def VR (P : Program) (w : World) (n : String) (d : DataW Unit) : Prop :=
  ∃ g t cs fuel p, P.globalNamed n = some g ∧ (P.globals[g]?).map (·.type) = some t ∧ w.var? P n = some cs ∧ DataW.trod (fun _ => ()) P w 0 (fun _ => true) false fuel t cs.toList = some (d, p)
theorem vr_of_vars {P : Program} {w : World} : ∀ {l : List (String × DataW Unit)} {ps : List MemPlace}, DataW.LaidVars P w l ps → ∀ n d, (n, d) ∈ l → VR P w n d
  | [], _, _, _, _, hm => by cases hm
  | (n', d') :: r, ps, h, n, d, hm => by
    obtain ⟨g, t, cs, fuel, p, q, h1, h2, h3, h4, h5, _⟩ := h
    rcases List.mem_cons.1 hm with e | e
    · cases e
      exact ⟨g, t, cs, fuel, p, h1, h2, h3, h4⟩
    · exact vr_of_vars h5 n d e
theorem vr_of_laid {P : Program} {w : World} {l : List (String × DataW Unit)} (h : laidMet P l w) {n : String} {d : DataW Unit} (hm : (n, d) ∈ l) : VR P w n d :=
  let ⟨_, hv, _⟩ := h
  vr_of_vars hv n d hm
theorem tab_of_vr {P : Program} {W : World} {name : String} {k : IntKind} {zs : List Int} {g : Nat} {t e : TypeId} {n : Nat}
    (hg : P.globalNamed name = some g) (hty : (P.globals[g]?).map (·.type) = some t) (ht : P.underlying t = some (.array n e)) (he : P.underlying e = some (.int k)) (hce : P.cellsOf e = 1) (hct : P.cellsOf t = n)
    (h : VR P W name (Lib.tabData k zs)) : Lib.TabIs P W name k zs := by
  obtain ⟨g', t', cs, fuel, p, hg', ht', hvar, hd⟩ := h
  obtain rfl := Option.some.inj (hg.symm.trans hg')
  obtain rfl := Option.some.inj (hty.symm.trans ht')
  unfold Lib.TabIs
  rw [hvar, ← Lib.cells_of_tab ht he hce hct hd]
theorem Tryd.gPr : Tryd.prog.globalNamed "quintadena/ratios.primes" = some 0 := by kernel_rfl
theorem Tryd.tPr : (Tryd.prog.globals[0]?).map (·.type) = some 79 := by kernel_rfl
theorem Tryd.c6Pr : Tryd.prog.cellsOf 79 = 6 := by kernel_rfl
theorem Tryd.c1I : Tryd.prog.cellsOf 2 = 1 := by kernel_rfl
theorem prData : (Rows.laid_quintadena_ratios_primes : DataW Unit) = Lib.tabData .i64 psI := by kernel_rfl
theorem pr_of_vr {W : World} (h : VR Tryd.prog W "quintadena/ratios.primes" Rows.laid_quintadena_ratios_primes) : PrL W := by
  rw [prData] at h
  have ht := tab_of_vr Tryd.gPr Tryd.tPr Tryd.underlying79 Tryd.underlying2 Tryd.c1I Tryd.c6Pr h
  unfold Lib.TabIs at ht
  have hc := fun i => World.var?_cell Tryd.gPr ht i
  have hcell : ∀ (i : Nat) (p : Int), psI[i]? = some p → W.cell? ⟨0, i, none⟩ = some (.int .i64 p) := fun i p hp => by
    rw [hc i]
    simp [hp]
  exact ⟨hcell, World.block_lt_of_cell? W _ (hcell 0 2 rfl)⟩
theorem pr_of_laid {W : World} (hL : laidMetH Tryd.prog Rows.ratiosOfRow.laid W) : PrL W := by
  have h : laidMet Tryd.prog Rows.ratiosOfRow.laid W := hL
  exact pr_of_vr (vr_of_laid h (n := "quintadena/ratios.primes") (d := Rows.laid_quintadena_ratios_primes) (by simp [Rows.ratiosOfRow]))
def layAt (h : Array Obj) (g : Nat) (cs : Array Value) : Array Obj :=
  h.modify g fun
    | .cells _ t frozen => .cells cs t frozen
    | o => o
/-- A world for the witness: the listed variable holds what its initialiser lays. -/
noncomputable def laidWorld (os : Os) : World :=
  let w0 := World.holding Tryd.prog os ⟨#[], #[], []⟩
  { w0 with heap := layAt w0.heap 0 #[.int .i64 2, .int .i64 3, .int .i64 5, .int .i64 7, .int .i64 11, .int .i64 13] }
set_option maxRecDepth 100000 in
theorem laid_met (os : Os) (args : Array Value) : laidMet Tryd.prog Rows.ratiosOfRow.laid ((laidWorld os).forCall (fun _ _ => 0) ⟨#[], args, []⟩).memory :=
  laidMet_of_run' 8 (by kernel_rfl) (by kernel_rfl)
/-- What lay below the heap's old size reads as it read, an argument at a time. -/
theorem args_stay {H : Type} {enc : TypeId × Value → H} {W W' : World} (hb : Below W.heap.size W W') (sp : Nat → Bool) :
    ∀ {ts : List TypeId} {vs : List Value} {ds : List (DataW H)} {ps : List MemPlace}, (∀ t ∈ ts, Tryd.prog.readableRec t = true ∧ t < Tryd.prog.types.size) →
    DataW.TrodAll enc Tryd.prog W 0 (fun _ => true) true ts vs ds ps → (∀ x ∈ ps, x.block < W.heap.size) → (∀ x ∈ ps, sp x.block = true) → DataW.TrodAll enc Tryd.prog W' 0 sp true ts vs ds ps
  | [], [], [], _, _, h, _, _ => h
  | [], [], _ :: _, _, _, h, _, _ => h
  | [], _ :: _, [], _, _, h, _, _ => h
  | [], _ :: _, _ :: _, _, _, h, _, _ => h
  | _ :: _, [], [], _, _, h, _, _ => h
  | _ :: _, [], _ :: _, _, _, h, _, _ => h
  | _ :: _, _ :: _, [], _, _, h, _, _ => h
  | t :: ts, v :: vs, d :: ds, ps, ht, h, hlt, hsp => by
    obtain ⟨p, p', h1, h2, rfl⟩ := h
    refine ⟨p, p', ?_, args_stay hb sp (fun t' ht' => ht t' (List.mem_cons_of_mem _ ht')) h2 (fun x hx => hlt x (List.mem_append_right _ hx)) (fun x hx => hsp x (List.mem_append_right _ hx)), rfl⟩
    exact WideElems.Trod_stays laidOut (ht t List.mem_cons_self).1 (ht t List.mem_cons_self).2 h1 (fun x hx => hb.same (hlt x (List.mem_append_left _ hx))) (fun x hx => hsp x (List.mem_append_left _ hx))
set_option maxRecDepth 100000 in
/-- A law's post from 'it returned true, and what lay below lies as it lay'. -/
theorem law_post {H : Type} {enc : TypeId × Value → H} {fn : Func} {s : ChangeSpec} {W W' : World} {args : Array Value} {ds : List (DataW H)} {before : List MemPlace}
    (hrt : fn.resultTypes = #[4]) (hread : ∀ t ∈ fn.params.toList, Tryd.prog.readableRec t = true ∧ t < Tryd.prog.types.size) (hsv : s.vars = [])
    (hfn : s.fn H ds = { results := [.lit (.bool true)], args := ds })
    (hW : DataW.Whole enc Tryd.prog fn.params.toList s.vars false W args.toList ds [] before) (hb : Below W.heap.size W W') :
    s.post enc Tryd.prog fn false true false false W args (.bool true) W' := by
  have hlt : ∀ p ∈ before, p.block < W.heap.size := fun p hp => hW.lt p hp
  obtain ⟨p, q, hA, hV, hpq, hz, hn⟩ := hW
  have hq : q = [] := by rw [hsv] at hV; exact (trodVars_none hV).2
  subst hq
  rw [List.append_nil] at hpq
  subst hpq
  have hres : ∀ (b : Nat) (sp : Nat → Bool) (hd : Bool), DataW.TrodAll enc Tryd.prog W' b sp hd fn.resultTypes.toList ((Value.bool true).resultList fn.resultTypes.size) (s.fn H (ds ++ [])).results [] := by
    intro b sp hd
    rw [List.append_nil, hfn, hrt]
    exact trodAll_mk1 (shut_bool Tryd.underlying4 true)
  have hargs : ∀ sp : Nat → Bool, (∀ x ∈ before, sp x.block = true) → DataW.TrodAll enc Tryd.prog W' 0 sp true fn.params.toList args.toList (s.fn H (ds ++ [])).args before := by
    intro sp hsp
    rw [List.append_nil, hfn]
    exact args_stay hb sp hread hA hlt hsp
  have hvars : ∀ sp : Nat → Bool, DataW.TrodVars enc Tryd.prog W' sp s.vars (s.fn H (ds ++ [])).vars [] := by
    intro sp
    rw [List.append_nil, hfn, hsv]
    exact rfl
  have hW0 : DataW.Whole enc Tryd.prog fn.params.toList s.vars false W args.toList ds [] before := ⟨before, [], hA, hV, by simp, hz, hn⟩
  refine ⟨ds, [], before, [], before, [], hW0, hres _ _ _, hargs _ (fun x hx => by simpa using hlt x hx), hvars _, World.keptBut_mono (fun x hx => ⟨hx, ?_⟩) (hb.frame (· ∈ before)), fun _ => ?_⟩
  · exact .inr (.inl hx)
  · refine ⟨ok_one hrt rfl (okWide_bool_mk Tryd.underlying4 _), _, _, ([] ++ before) ++ [], ⟨[] ++ before, [], trodAll_append (hargs _ (fun _ _ => rfl)) (hres _ _ _), hvars _, rfl, fun b off hp => ?_, fun ha => by cases ha⟩, fun x hx _ => by simpa using hx⟩
    have hin : MemPlace.cell b off ∈ before := by simpa using hp
    rw [hb.frozen (hlt _ hin)]
    exact hz b off hin
/-- An argument that is a ratio. -/
theorem list7 {cs : Array Value} (h : cs.size = 7) : ∃ a b c d e f g, cs = #[a, b, c, d, e, f, g] := by
  obtain ⟨l⟩ := cs
  match l, h with
  | [a, b, c, d, e, f, g], _ => exact ⟨a, b, c, d, e, f, g, rfl⟩
set_option maxRecDepth 100000 in
theorem open_ratio {H : Type} {enc : TypeId × Value → H} {w : World} {base : Nat} {sp : Nat → Bool} {held : Bool} {r : Reach} {b0 : Nat} {v : Value} {d : DataW H} {ps : List MemPlace}
    (hv : Value.okWide Tryd.prog w r b0 34 v) (h : DataW.Trod enc Tryd.prog w base sp held 34 v d ps) :
    ∃ x0 x1 x2 x3 x4 x5 xd : Int, v = .agg #[.int .i64 x0, .int .i64 x1, .int .i64 x2, .int .i64 x3, .int .i64 x4, .int .i64 x5, .int .i64 xd] := by
  obtain ⟨cs, rfl, hsz⟩ := okWide_struct Tryd.underlying34 hv
  have hC : Tryd.prog.cellsOf 34 = 7 := by kernel_rfl
  have hA : Tryd.prog.cellsOf 32 = 6 := by kernel_rfl
  have hI : Tryd.prog.cellsOf 3 = 1 := by kernel_rfl
  obtain ⟨k0, k1, k2, k3, k4, k5, k6, rfl⟩ := list7 (hsz.trans hC)
  obtain ⟨fuel, hf⟩ := h
  obtain ⟨ys, n', hn', hy, hlen, hyl, hfs⟩ := DataW.trod_struct Tryd.underlying34 hf
  match ys, hyl with
  | [y0, y1], _ =>
    have f0 : DataW.trod enc Tryd.prog w base sp held n' 32 (List.take (Tryd.prog.cellsOf 32) (List.drop 0 [k0, k1, k2, k3, k4, k5, k6])) = some y0 := hfs 0 _ rfl
    have f1 : DataW.trod enc Tryd.prog w base sp held n' 3 (List.take (Tryd.prog.cellsOf 3) (List.drop 6 [k0, k1, k2, k3, k4, k5, k6])) = some y1 := hfs 1 _ rfl
    rw [hA] at f0
    rw [hI] at f1
    simp only [List.drop_zero, List.take_succ_cons, List.take_zero, List.drop_succ_cons] at f0 f1
    obtain ⟨xd, e6, -⟩ := DataW.trod_int Tryd.underlying3 f1
    obtain ⟨zs, m0, -, -, -, hlz, hzf⟩ := Go.DataW.trod_array Tryd.underlying32 f0
    match zs, hlz with
    | [z0, z1, z2, z3, z4, z5], _ =>
      have g0 := hzf 0 (by omega)
      have g1 := hzf 1 (by omega)
      have g2 := hzf 2 (by omega)
      have g3 := hzf 3 (by omega)
      have g4 := hzf 4 (by omega)
      have g5 := hzf 5 (by omega)
      simp [hI] at g0 g1 g2 g3 g4 g5
      obtain ⟨x0, e0, -⟩ := DataW.trod_int Tryd.underlying3 g0
      obtain ⟨x1, e1, -⟩ := DataW.trod_int Tryd.underlying3 g1
      obtain ⟨x2, e2, -⟩ := DataW.trod_int Tryd.underlying3 g2
      obtain ⟨x3, e3, -⟩ := DataW.trod_int Tryd.underlying3 g3
      obtain ⟨x4, e4, -⟩ := DataW.trod_int Tryd.underlying3 g4
      obtain ⟨x5, e5, -⟩ := DataW.trod_int Tryd.underlying3 g5
      simp at e0 e1 e2 e3 e4 e5 e6
      subst e0 e1 e2 e3 e4 e5 e6
      exact ⟨x0, x1, x2, x3, x4, x5, xd, rfl⟩
end Go.Proofs.YtokkcmadgcdpiaaDoor
