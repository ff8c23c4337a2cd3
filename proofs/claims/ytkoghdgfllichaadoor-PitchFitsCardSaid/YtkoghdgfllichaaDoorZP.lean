import Derived.Test.YtkoghdgfllichaaDoorPAF
import Derived.Deep.Strs
import Derived.Test.YtkoghdgfllichaaDoorCards
import Derived.OpenShut
import Derived.Lib.LaidTab
import Derived.Lib.SmallJoins
import Derived.Carry
import Derived.ProofKit
import Derived.Deep.DeepHandedRow
import Derived.Deep.SlicePairs
import Derived.Deep.Slices
import Derived.Deep.Fields
import Derived.ChangeSame
namespace Go.Proofs.YtkoghdgfllichaaDoor
open Go.ChangeShapes Go.WideShapes Go.ChangeAt Go.RowKit Go.Deep

/-! The frame of the laws on ratios: what is laid, the arguments, the post. -/
theorem own : ownKnob Tryd.prog.godebug = none := by kernel_rfl
theorem laidOut : laidOutB Tryd.prog = true := by kernel_rfl
def VR (P : Program) (w : World) (n : String) (d : DataW Unit) : Prop :=
  ∃ g t cs fuel p, P.globalNamed n = some g ∧ (P.globals[g]?).map (·.type) = some t ∧ w.var? P n = some cs ∧ DataW.trod (fun _ => ()) P w 0 (fun _ => true) false fuel t cs.toList = some (d, p)
theorem vr_of_vars {P : Program} {w : World} : ∀ {l : List (String × DataW Unit)} {ps : List MemPlace}, DataW.LaidVars P w l ps → ∀ n d, (n, d) ∈ l → VR P w n d
  | [], _, _, _, _, hm => by cases hm
  | (n', d') :: r, ps, h, n, d, hm => by
    obtain ⟨g, t, cs, fuel, p, q, h1, h2, h3, h4, h5, _⟩ := h
    rcases List.mem_cons.1 hm with e | e
    · cases e
      exact ⟨g, t, cs, fuel, p, h1, h2, h3, h4⟩
    · exact vr_of_vars h5 n d e
theorem vr_of_laid {P : Program} {w : World} {l : List (String × DataW Unit)} (h : laidMet P l w) {n : String} {d : DataW Unit} (hm : (n, d) ∈ l) : VR P w n d :=
  let ⟨_, hv, _⟩ := h
  vr_of_vars hv n d hm
theorem tab_of_vr {P : Program} {W : World} {name : String} {k : IntKind} {zs : List Int} {g : Nat} {t e : TypeId} {n : Nat}
    (hg : P.globalNamed name = some g) (hty : (P.globals[g]?).map (·.type) = some t) (ht : P.underlying t = some (.array n e)) (he : P.underlying e = some (.int k)) (hce : P.cellsOf e = 1) (hct : P.cellsOf t = n)
    (h : VR P W name (Lib.tabData k zs)) : Lib.TabIs P W name k zs := by
  obtain ⟨g', t', cs, fuel, p, hg', ht', hvar, hd⟩ := h
  obtain rfl := Option.some.inj (hg.symm.trans hg')
  obtain rfl := Option.some.inj (hty.symm.trans ht')
  unfold Lib.TabIs
  rw [hvar, ← Lib.cells_of_tab ht he hce hct hd]
theorem Tryd.gPr : Tryd.prog.globalNamed "quintadena/ratios.primes" = some 0 := by kernel_rfl
theorem Tryd.tPr : (Tryd.prog.globals[0]?).map (·.type) = some 80 := by kernel_rfl
theorem Tryd.c6Pr : Tryd.prog.cellsOf 80 = 6 := by kernel_rfl
theorem Tryd.c1I : Tryd.prog.cellsOf 2 = 1 := by kernel_rfl
theorem prData : (Rows.laid_quintadena_ratios_primes : DataW Unit) = Lib.tabData .i64 psI := by kernel_rfl
theorem pr_of_vr {W : World} (h : VR Tryd.prog W "quintadena/ratios.primes" Rows.laid_quintadena_ratios_primes) : PrL W := by
  rw [prData] at h
  have ht := tab_of_vr Tryd.gPr Tryd.tPr Tryd.underlying80 Tryd.underlying2 Tryd.c1I Tryd.c6Pr h
  unfold Lib.TabIs at ht
  have hc := fun i => World.var?_cell Tryd.gPr ht i
  have hcell : ∀ (i : Nat) (p : Int), psI[i]? = some p → W.cell? ⟨0, i, none⟩ = some (.int .i64 p) := fun i p hp => by
    rw [hc i]
    simp [hp]
  exact ⟨hcell, World.block_lt_of_cell? W _ (hcell 0 2 rfl)⟩
def layAt (h : Array Obj) (g : Nat) (cs : Array Value) : Array Obj :=
  h.modify g fun
    | .cells _ t frozen => .cells cs t frozen
    | o => o
/-- A world for the witness: the listed variable holds what its initialiser lays. -/
noncomputable def laidWorld (os : Os) : World :=
  let w0 := World.holding Tryd.prog os ⟨#[], #[], []⟩
  { w0 with heap := layAt w0.heap 0 #[.int .i64 2, .int .i64 3, .int .i64 5, .int .i64 7, .int .i64 11, .int .i64 13] }
/-- What lay below the heap's old size reads as it read, an argument at a time. -/
theorem args_stay {H : Type} {enc : TypeId × Value → H} {W W' : World} (hb : Below W.heap.size W W') (sp : Nat → Bool) :
    ∀ {ts : List TypeId} {vs : List Value} {ds : List (DataW H)} {ps : List MemPlace}, (∀ t ∈ ts, Tryd.prog.readableRec t = true ∧ t < Tryd.prog.types.size) →
    DataW.TrodAll enc Tryd.prog W 0 (fun _ => true) true ts vs ds ps → (∀ x ∈ ps, x.block < W.heap.size) → (∀ x ∈ ps, sp x.block = true) → DataW.TrodAll enc Tryd.prog W' 0 sp true ts vs ds ps
  | [], [], [], _, _, h, _, _ => h
  | [], [], _ :: _, _, _, h, _, _ => h
  | [], _ :: _, [], _, _, h, _, _ => h
  | [], _ :: _, _ :: _, _, _, h, _, _ => h
  | _ :: _, [], [], _, _, h, _, _ => h
  | _ :: _, [], _ :: _, _, _, h, _, _ => h
  | _ :: _, _ :: _, [], _, _, h, _, _ => h
  | t :: ts, v :: vs, d :: ds, ps, ht, h, hlt, hsp => by
    obtain ⟨p, p', h1, h2, rfl⟩ := h
    refine ⟨p, p', ?_, args_stay hb sp (fun t' ht' => ht t' (List.mem_cons_of_mem _ ht')) h2 (fun x hx => hlt x (List.mem_append_right _ hx)) (fun x hx => hsp x (List.mem_append_right _ hx)), rfl⟩
    exact WideElems.Trod_stays laidOut (ht t List.mem_cons_self).1 (ht t List.mem_cons_self).2 h1 (fun x hx => hb.same (hlt x (List.mem_append_left _ hx))) (fun x hx => hsp x (List.mem_append_left _ hx))
set_option maxRecDepth 100000 in
/-- A law's post from 'it returned true, and what lay below lies as it lay'. -/
theorem law_post {H : Type} {enc : TypeId × Value → H} {fn : Func} {s : ChangeSpec} {W W' : World} {args : Array Value} {ds : List (DataW H)} {before : List MemPlace}
    (hrt : fn.resultTypes = #[4]) (hread : ∀ t ∈ fn.params.toList, Tryd.prog.readableRec t = true ∧ t < Tryd.prog.types.size) (hsv : s.vars = [])
    (hfn : s.fn H ds = { results := [.lit (.bool true)], args := ds })
    (hW : DataW.Whole enc Tryd.prog fn.params.toList s.vars false W args.toList ds [] before) (hb : Below W.heap.size W W') :
    s.post enc Tryd.prog fn false true false false W args (.bool true) W' := by
  have hlt : ∀ p ∈ before, p.block < W.heap.size := fun p hp => hW.lt p hp
  obtain ⟨p, q, hA, hV, hpq, hz, hn⟩ := hW
  have hq : q = [] := by rw [hsv] at hV; exact (trodVars_none hV).2
  subst hq
  rw [List.append_nil] at hpq
  subst hpq
  have hres : ∀ (b : Nat) (sp : Nat → Bool) (hd : Bool), DataW.TrodAll enc Tryd.prog W' b sp hd fn.resultTypes.toList ((Value.bool true).resultList fn.resultTypes.size) (s.fn H (ds ++ [])).results [] := by
    intro b sp hd
    rw [List.append_nil, hfn, hrt]
    exact trodAll_mk1 (shut_bool Tryd.underlying4 true)
  have hargs : ∀ sp : Nat → Bool, (∀ x ∈ before, sp x.block = true) → DataW.TrodAll enc Tryd.prog W' 0 sp true fn.params.toList args.toList (s.fn H (ds ++ [])).args before := by
    intro sp hsp
    rw [List.append_nil, hfn]
    exact args_stay hb sp hread hA hlt hsp
  have hvars : ∀ sp : Nat → Bool, DataW.TrodVars enc Tryd.prog W' sp s.vars (s.fn H (ds ++ [])).vars [] := by
    intro sp
    rw [List.append_nil, hfn, hsv]
    exact rfl
  have hW0 : DataW.Whole enc Tryd.prog fn.params.toList s.vars false W args.toList ds [] before := ⟨before, [], hA, hV, by simp, hz, hn⟩
  refine ⟨ds, [], before, [], before, [], hW0, hres _ _ _, hargs _ (fun x hx => by simpa using hlt x hx), hvars _, World.keptBut_mono (fun x hx => ⟨hx, ?_⟩) (hb.frame (· ∈ before)), fun _ => ?_⟩
  · exact .inr (.inl hx)
  · refine ⟨ok_one hrt rfl (okWide_bool_mk Tryd.underlying4 _), _, _, ([] ++ before) ++ [], ⟨[] ++ before, [], trodAll_append (hargs _ (fun _ _ => rfl)) (hres _ _ _), hvars _, rfl, fun b off hp => ?_, fun ha => by cases ha⟩, fun x hx _ => by simpa using hx⟩
    have hin : MemPlace.cell b off ∈ before := by simpa using hp
    rw [hb.frozen (hlt _ hin)]
    exact hz b off hin
theorem list27 {cs : Array Value} (h : cs.size = 27) : ∃ k0 k1 k2 k3 k4 k5 k6 k7 k8 k9 k10 k11 k12 k13 k14 k15 k16 k17 k18 k19 k20 k21 k22 k23 k24 k25 k26, cs = #[k0, k1, k2, k3, k4, k5, k6, k7, k8, k9, k10, k11, k12, k13, k14, k15, k16, k17, k18, k19, k20, k21, k22, k23, k24, k25, k26] := by
  obtain ⟨l⟩ := cs
  match l, h with
  | [k0, k1, k2, k3, k4, k5, k6, k7, k8, k9, k10, k11, k12, k13, k14, k15, k16, k17, k18, k19, k20, k21, k22, k23, k24, k25, k26], _ => exact ⟨k0, k1, k2, k3, k4, k5, k6, k7, k8, k9, k10, k11, k12, k13, k14, k15, k16, k17, k18, k19, k20, k21, k22, k23, k24, k25, k26, rfl⟩
/-- An argument that is a temperament. -/
theorem open_part {H : Type} {enc : TypeId × Value → H} {w : World} {base n : Nat} {sp : Nat → Bool} {held : Bool} {a b : Value} {y : DataW H × List MemPlace} (h : DataW.trod enc Tryd.prog w base sp held n 35 [a, b] = some y) : ∃ x z : Int, a = .int .i64 x ∧ b = .int .i64 z := by
  have hI : Tryd.prog.cellsOf 3 = 1 := by kernel_rfl
  obtain ⟨y0, y1, m, -, -, f0, f1⟩ := trod_struct2 Tryd.underlying35 h
  simp [hI] at f0 f1
  obtain ⟨x, e0, -⟩ := DataW.trod_int Tryd.underlying3 f0
  obtain ⟨z, e1, -⟩ := DataW.trod_int Tryd.underlying3 f1
  try simp at e0 e1
  exact ⟨x, z, e0, e1⟩
set_option maxRecDepth 100000 in
set_option maxHeartbeats 2000000 in
theorem open_tm {H : Type} {enc : TypeId × Value → H} {w : World} {base fuel : Nat} {sp : Nat → Bool} {held : Bool} {y : DataW H × List MemPlace} {k0 k1 k2 k3 k4 k5 k6 k7 k8 k9 k10 k11 k12 k13 k14 k15 k16 k17 k18 k19 k20 k21 k22 k23 k24 k25 k26 : Value}
    (hf : DataW.trod enc Tryd.prog w base sp held fuel 38 [k0, k1, k2, k3, k4, k5, k6, k7, k8, k9, k10, k11, k12, k13, k14, k15, k16, k17, k18, k19, k20, k21, k22, k23, k24, k25, k26] = some y) :
    ∃ T : Tp.Tm, [k0, k1, k2, k3, k4, k5, k6, k7, k8, k9, k10, k11, k12, k13, k14, k15, k16, k17, k18, k19, k20, k21, k22, k23, k24, k25, k26] = Tp.tmV T ∧ T.ps.length = 12 ∧ T.nm.size ≤ maxLen := by
  have hS : Tryd.prog.cellsOf 9 = 1 := by kernel_rfl
  have hBo : Tryd.prog.cellsOf 4 = 1 := by kernel_rfl
  have hI : Tryd.prog.cellsOf 3 = 1 := by kernel_rfl
  have hA : Tryd.prog.cellsOf 36 = 24 := by kernel_rfl
  have hP : Tryd.prog.cellsOf 35 = 2 := by kernel_rfl
  obtain ⟨y0, y1, y2, y3, n', -, -, f0, f1, f2, f3⟩ := Go.Joins.trod_struct4 Tryd.underlying38 hf
  simp [hS, hBo, hI, hA] at f0 f1 f2 f3
  obtain ⟨nm, e0, -, hnm⟩ := DataW.trod_string Tryd.underlying9 f0
  obtain ⟨sy, e1, -⟩ := DataW.trod_bool Tryd.underlying4 f1
  obtain ⟨wo, e2, -⟩ := DataW.trod_int Tryd.underlying3 f2
  try simp at e0 e1 e2
  obtain ⟨zs, m0, -, -, -, hlz, hzf⟩ := Go.DataW.trod_array Tryd.underlying36 f3
  have g0 := hzf 0 (by omega)
  have g1 := hzf 1 (by omega)
  have g2 := hzf 2 (by omega)
  have g3 := hzf 3 (by omega)
  have g4 := hzf 4 (by omega)
  have g5 := hzf 5 (by omega)
  have g6 := hzf 6 (by omega)
  have g7 := hzf 7 (by omega)
  have g8 := hzf 8 (by omega)
  have g9 := hzf 9 (by omega)
  have g10 := hzf 10 (by omega)
  have g11 := hzf 11 (by omega)
  simp [hP] at g0 g1 g2 g3 g4 g5 g6 g7 g8 g9 g10 g11
  obtain ⟨z0, hz0⟩ : ∃ z, zs[0]? = some z := ⟨zs[0]'(by omega), List.getElem?_eq_getElem _⟩
  (first | rw [hz0] at g0 | skip)
  obtain ⟨n0, d0, p0, q0⟩ := open_part g0
  obtain ⟨z1, hz1⟩ : ∃ z, zs[1]? = some z := ⟨zs[1]'(by omega), List.getElem?_eq_getElem _⟩
  (first | rw [hz1] at g1 | skip)
  obtain ⟨n1, d1, p1, q1⟩ := open_part g1
  obtain ⟨z2, hz2⟩ : ∃ z, zs[2]? = some z := ⟨zs[2]'(by omega), List.getElem?_eq_getElem _⟩
  (first | rw [hz2] at g2 | skip)
  obtain ⟨n2, d2, p2, q2⟩ := open_part g2
  obtain ⟨z3, hz3⟩ : ∃ z, zs[3]? = some z := ⟨zs[3]'(by omega), List.getElem?_eq_getElem _⟩
  (first | rw [hz3] at g3 | skip)
  obtain ⟨n3, d3, p3, q3⟩ := open_part g3
  obtain ⟨z4, hz4⟩ : ∃ z, zs[4]? = some z := ⟨zs[4]'(by omega), List.getElem?_eq_getElem _⟩
  (first | rw [hz4] at g4 | skip)
  obtain ⟨n4, d4, p4, q4⟩ := open_part g4
  obtain ⟨z5, hz5⟩ : ∃ z, zs[5]? = some z := ⟨zs[5]'(by omega), List.getElem?_eq_getElem _⟩
  (first | rw [hz5] at g5 | skip)
  obtain ⟨n5, d5, p5, q5⟩ := open_part g5
  obtain ⟨z6, hz6⟩ : ∃ z, zs[6]? = some z := ⟨zs[6]'(by omega), List.getElem?_eq_getElem _⟩
  (first | rw [hz6] at g6 | skip)
  obtain ⟨n6, d6, p6, q6⟩ := open_part g6
  obtain ⟨z7, hz7⟩ : ∃ z, zs[7]? = some z := ⟨zs[7]'(by omega), List.getElem?_eq_getElem _⟩
  (first | rw [hz7] at g7 | skip)
  obtain ⟨n7, d7, p7, q7⟩ := open_part g7
  obtain ⟨z8, hz8⟩ : ∃ z, zs[8]? = some z := ⟨zs[8]'(by omega), List.getElem?_eq_getElem _⟩
  (first | rw [hz8] at g8 | skip)
  obtain ⟨n8, d8, p8, q8⟩ := open_part g8
  obtain ⟨z9, hz9⟩ : ∃ z, zs[9]? = some z := ⟨zs[9]'(by omega), List.getElem?_eq_getElem _⟩
  (first | rw [hz9] at g9 | skip)
  obtain ⟨n9, d9, p9, q9⟩ := open_part g9
  obtain ⟨z10, hz10⟩ : ∃ z, zs[10]? = some z := ⟨zs[10]'(by omega), List.getElem?_eq_getElem _⟩
  (first | rw [hz10] at g10 | skip)
  obtain ⟨n10, d10, p10, q10⟩ := open_part g10
  obtain ⟨z11, hz11⟩ : ∃ z, zs[11]? = some z := ⟨zs[11]'(by omega), List.getElem?_eq_getElem _⟩
  (first | rw [hz11] at g11 | skip)
  obtain ⟨n11, d11, p11, q11⟩ := open_part g11
  subst e0 e1 e2 p0 q0 p1 q1 p2 q2 p3 q3 p4 q4 p5 q5 p6 q6 p7 q7 p8 q8 p9 q9 p10 q10 p11 q11
  exact ⟨⟨nm, sy, wo, [(n0, d0), (n1, d1), (n2, d2), (n3, d3), (n4, d4), (n5, d5), (n6, d6), (n7, d7), (n8, d8), (n9, d9), (n10, d10), (n11, d11)]⟩, rfl, rfl, hnm⟩
theorem list30 {cs : Array Value} (h : cs.size = 30) : ∃ a b c k0 k1 k2 k3 k4 k5 k6 k7 k8 k9 k10 k11 k12 k13 k14 k15 k16 k17 k18 k19 k20 k21 k22 k23 k24 k25 k26, cs = #[a, b, c, k0, k1, k2, k3, k4, k5, k6, k7, k8, k9, k10, k11, k12, k13, k14, k15, k16, k17, k18, k19, k20, k21, k22, k23, k24, k25, k26] := by
  obtain ⟨l⟩ := cs
  match l, h with
  | [a, b, c, k0, k1, k2, k3, k4, k5, k6, k7, k8, k9, k10, k11, k12, k13, k14, k15, k16, k17, k18, k19, k20, k21, k22, k23, k24, k25, k26], _ => exact ⟨a, b, c, k0, k1, k2, k3, k4, k5, k6, k7, k8, k9, k10, k11, k12, k13, k14, k15, k16, k17, k18, k19, k20, k21, k22, k23, k24, k25, k26, rfl⟩
set_option maxRecDepth 100000 in
set_option maxHeartbeats 2000000 in
/-- An argument that is a case: a standard and a temperament. -/
theorem open_case {H : Type} {enc : TypeId × Value → H} {w : World} {base : Nat} {sp : Nat → Bool} {held : Bool} {r : Reach} {b0 : Nat} {v : Value} {d : DataW H} {ps : List MemPlace}
    (hv : Value.okWide Tryd.prog w r b0 52 v) (h : DataW.Trod enc Tryd.prog w base sp held 52 v d ps) :
    ∃ (a t0 t : Int) (T : Tp.Tm), v = .agg (.int .i64 a :: .int .i64 t0 :: .int .i64 t :: Tp.tmV T).toArray ∧ T.ps.length = 12 ∧ T.nm.size ≤ maxLen := by
  obtain ⟨cs, rfl, hsz⟩ := okWide_struct Tryd.underlying52 hv
  have hC : Tryd.prog.cellsOf 52 = 30 := by kernel_rfl
  have hS3 : Tryd.prog.cellsOf 50 = 3 := by kernel_rfl
  have hT : Tryd.prog.cellsOf 38 = 27 := by kernel_rfl
  have hI : Tryd.prog.cellsOf 2 = 1 := by kernel_rfl
  obtain ⟨a, b, c, k0, k1, k2, k3, k4, k5, k6, k7, k8, k9, k10, k11, k12, k13, k14, k15, k16, k17, k18, k19, k20, k21, k22, k23, k24, k25, k26, rfl⟩ := list30 (hsz.trans hC)
  obtain ⟨fuel, hf⟩ := h
  obtain ⟨y0, y1, m, -, -, f0, f1⟩ := trod_struct2 Tryd.underlying52 hf
  simp [hS3, hT, Value.cells] at f0 f1
  obtain ⟨T, eT, hl, hs⟩ := open_tm f1
  obtain ⟨z0, z1, z2, m2, -, -, g0, g1, g2⟩ := Go.Deep.trod_struct3 Tryd.underlying50 f0
  simp [hI] at g0 g1 g2
  obtain ⟨i0, e0, -⟩ := DataW.trod_int Tryd.underlying2 g0
  obtain ⟨i1, e1, -⟩ := DataW.trod_int Tryd.underlying2 g1
  obtain ⟨i2, e2, -⟩ := DataW.trod_int Tryd.underlying2 g2
  try simp at e0 e1 e2
  subst e0 e1 e2
  exact ⟨i0, i1, i2, T, by rw [← eT], hl, hs⟩
end Go.Proofs.YtkoghdgfllichaaDoor
