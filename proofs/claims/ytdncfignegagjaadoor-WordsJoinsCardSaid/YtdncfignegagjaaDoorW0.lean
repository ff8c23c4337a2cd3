import Derived.Test.YtdncfignegagjaaDoorRows
import Derived.Test.YtdncfignegagjaaDoorTie
import Derived.Test.YtdncfignegagjaaDoorShelf
import Derived.WalkKit
import Derived.WalkSpells
import Derived.WalkLawsBesides
import Derived.OpenShut
import Derived.Lib.Hide
import Derived.Lib.LaidTab
import Derived.Lib.SmallJoins
import Derived.Stop.LaidErr
import Derived.Stop.ErrReads
import Derived.BigQuiet
import Derived.Deep.QuietTactic
namespace Go.Proofs.YtdncfignegagjaaDoor
open Go.RowKit Go.ChangeShapes Go.WideShapes

def nmL : List (List UInt8) := [[99], [99, 35], [100], [100, 35], [101], [102], [102, 35], [103], [103, 35], [97], [97, 35], [98]]
def semL : List Int := [9, 11, 0, 2, 4, 5, 7]

structure Tabs (W : World) : Prop where
  names : ∀ i, i < 12 → W.cell? ⟨0, i, none⟩ = some (.string ⟨(nmL.getD i []).toArray⟩)
  semis : ∀ i, i < 7 → W.cell? ⟨1, i, none⟩ = some (.int .i64 (semL.getD i 0))
  pow : Lib.TabIs Tryd.prog W "internal/strconv.uint64pow10" .u64 Lib.pow10Tab
  esyn : ∃ te pe, W.cell? ⟨3, 0, none⟩ = some (.iface te pe)
  eran : ∃ te pe, W.cell? ⟨4, 0, none⟩ = some (.iface te pe)
  maxl : ∃ m, W.cell? ⟨2, 0, none⟩ = some (.int .i64 m)

theorem Tryd.gPow : Tryd.prog.globalNamed "internal/strconv.uint64pow10" = some 5 := by kernel_rfl

theorem Tabs.below {W W' : World} (h : Tabs W) (hb : Below W.heap.size W W') : Tabs W' where
  names := fun i hi => cell_later hb (h.names i hi)
  semis := fun i hi => cell_later hb (h.semis i hi)
  pow := Go.Joins.tab_stays Tryd.gPow h.pow hb (Nat.le_refl _)
  esyn := let ⟨te, pe, he⟩ := h.esyn; ⟨te, pe, cell_later hb he⟩
  eran := let ⟨te, pe, he⟩ := h.eran; ⟨te, pe, cell_later hb he⟩
  maxl := let ⟨m, he⟩ := h.maxl; ⟨m, cell_later hb he⟩
theorem below_drewN (W : World) (n : Nat) : Below W.heap.size W (W.drewN n) := by
  induction n with
  | zero => exact Below.refl _ _
  | succ n ih => exact ih.drew
theorem Tabs.drewN {W : World} (h : Tabs W) (n : Nat) : Tabs (W.drewN n) := h.below (below_drewN W n)
theorem Tabs.drew {W : World} (h : Tabs W) : Tabs W.drew := h.below (Below.refl _ _).drew

/-! From the row's list. -/
def VR (P : Program) (w : World) (n : String) (d : DataW Unit) : Prop :=
  ∃ g t cs fuel p, P.globalNamed n = some g ∧ (P.globals[g]?).map (·.type) = some t ∧ w.var? P n = some cs ∧ DataW.trod (fun _ => ()) P w 0 (fun _ => true) false fuel t cs.toList = some (d, p)
theorem vr_of_vars {P : Program} {w : World} : ∀ {l : List (String × DataW Unit)} {ps : List MemPlace}, DataW.LaidVars P w l ps → ∀ n d, (n, d) ∈ l → VR P w n d
  | [], _, _, _, _, hm => by cases hm
  | (n', d') :: r, ps, h, n, d, hm => by
    obtain ⟨g, t, cs, fuel, p, q, h1, h2, h3, h4, h5, _⟩ := h
    rcases List.mem_cons.1 hm with e | e
    · cases e
      exact ⟨g, t, cs, fuel, p, h1, h2, h3, h4⟩
    · exact vr_of_vars h5 n d e
theorem vr_of_laid {P : Program} {w : World} {l : List (String × DataW Unit)} (h : laidMet P l w) {n : String} {d : DataW Unit} (hm : (n, d) ∈ l) : VR P w n d :=
  let ⟨_, hv, _⟩ := h
  vr_of_vars hv n d hm

theorem tab_of_vr {P : Program} {W : World} {name : String} {k : IntKind} {zs : List Int} {g : Nat} {t e : TypeId} {n : Nat}
    (hg : P.globalNamed name = some g) (hty : (P.globals[g]?).map (·.type) = some t) (ht : P.underlying t = some (.array n e)) (he : P.underlying e = some (.int k)) (hce : P.cellsOf e = 1) (hct : P.cellsOf t = n)
    (h : VR P W name (Lib.tabData k zs)) : Lib.TabIs P W name k zs := by
  obtain ⟨g', t', cs, fuel, p, hg', ht', hvar, hd⟩ := h
  obtain rfl := Option.some.inj (hg.symm.trans hg')
  obtain rfl := Option.some.inj (hty.symm.trans ht')
  unfold Lib.TabIs
  rw [hvar, ← Lib.cells_of_tab ht he hce hct hd]

/-- An array of strings that is listed holds these strings. -/
def strData {H : Type} (ls : List (List UInt8)) : DataW H := .agg (ls.map fun z => .lit (.string z))
theorem strs_of_trod {H : Type} {enc : TypeId × Value → H} {P : Program} {w : World} {base : Nat} {sp : Nat → Bool} {held : Bool} {fuel : Nat} {t e : TypeId} {n : Nat} {cs : List Value} {ls : List (List UInt8)} {p : List MemPlace}
    (ht : P.underlying t = some (.array n e)) (he : P.underlying e = some .string) (hce : P.cellsOf e = 1) (_hct : P.cellsOf t = n)
    (h : DataW.trod enc P w base sp held fuel t cs = some (strData ls, p)) : ∀ i, i < ls.length → cs[i]? = some (.string ⟨(ls.getD i []).toArray⟩) := by
  obtain ⟨xs, m, _, hx, _, hxl, hall⟩ := Go.DataW.trod_array ht h
  have hxs : xs.map (·.1) = ls.map fun z => (DataW.lit (.string z) : DataW H) := by
    have := congrArg Prod.fst hx
    simpa [strData] using this.symm
  have hll : ls.length = n := by
    have := congrArg List.length hxs
    simp at this; omega
  intro i hi
  have hf := hall i (by omega)
  rw [hce, Nat.mul_one] at hf
  have hxi : i < xs.length := by omega
  rw [List.getElem?_eq_getElem hxi] at hf
  obtain ⟨s, hc, hd, _⟩ := Go.DataW.trod_string he hf
  have h1 : cs[i]? = some (.string s) := by
    have := congrArg (·[0]?) hc
    simpa [List.getElem?_take, List.getElem?_drop] using this
  have h2 : (xs.map (·.1))[i]? = some (DataW.lit (.string s.data.toList) : DataW H) := by simp [List.getElem?_eq_getElem hxi, hd]
  rw [hxs, List.getElem?_map, List.getElem?_eq_getElem hi] at h2
  simp only [Option.map_some, Option.some.injEq, DataW.lit.injEq, Lit.string.injEq] at h2
  rw [h1, List.getD_eq_getElem?_getD, List.getElem?_eq_getElem hi, Option.getD_some, h2]

theorem iface_of_vr {P : Program} {W : World} {name nm : String} {d : DataW Unit} {g : Nat} {ti : TypeId} {ms : Array (String × TypeId)}
    (hg : P.globalNamed name = some g) (hty : (P.globals[g]?).map (·.type) = some ti) (hi : P.underlying ti = some (.interface ms))
    (h : VR P W name (.iface nm d)) : ∃ te pe, W.cell? ⟨g, 0, none⟩ = some (.iface te pe) := by
  obtain ⟨g', t', cs, fuel, p, hg', ht', hvar, hd⟩ := h
  obtain rfl := Option.some.inj (hg.symm.trans hg')
  obtain rfl := Option.some.inj (hty.symm.trans ht')
  cases fuel with
  | zero => simp [DataW.trod] at hd
  | succ m =>
    obtain ⟨l⟩ := cs
    unfold DataW.trod at hd
    rw [hi] at hd
    simp only at hd
    have hc := World.var?_cell hg hvar 0
    split at hd
    all_goals first
      | (rename_i te pe; exact ⟨te, pe, by simpa using hc⟩)
      | (rename_i te pe _; exact ⟨te, pe, by simpa using hc⟩)
      | simp_all

theorem Tryd.tNames : Tryd.prog.globalNamed "quintadena/words.noteNames" = some 0 := by kernel_rfl
theorem Tryd.tNamesT : (Tryd.prog.globals[0]?).map (·.type) = some 70 := by kernel_rfl
theorem Tryd.tSemis : Tryd.prog.globalNamed "quintadena/words.letterSemitones" = some 1 := by kernel_rfl
theorem Tryd.tSemisT : (Tryd.prog.globals[1]?).map (·.type) = some 74 := by kernel_rfl
theorem Tryd.tPowT : (Tryd.prog.globals[5]?).map (·.type) = some 137 := by kernel_rfl
theorem Tryd.tSyn : Tryd.prog.globalNamed "strconv.ErrSyntax" = some 3 := by kernel_rfl
theorem Tryd.tSynT : (Tryd.prog.globals[3]?).map (·.type) = some 65 := by kernel_rfl
theorem Tryd.tRan : Tryd.prog.globalNamed "strconv.ErrRange" = some 4 := by kernel_rfl
theorem Tryd.tRanT : (Tryd.prog.globals[4]?).map (·.type) = some 65 := by kernel_rfl
theorem Tryd.cStr : Tryd.prog.cellsOf 9 = 1 := by kernel_rfl
theorem Tryd.cInt : Tryd.prog.cellsOf 3 = 1 := by kernel_rfl
theorem Tryd.cU64 : Tryd.prog.cellsOf 113 = 1 := by kernel_rfl
theorem Tryd.cA12 : Tryd.prog.cellsOf 70 = 12 := by kernel_rfl
theorem Tryd.cA7 : Tryd.prog.cellsOf 74 = 7 := by kernel_rfl
theorem Tryd.cA20 : Tryd.prog.cellsOf 137 = 20 := by kernel_rfl

theorem powData : (Rows.laid_internal_strconv_uint64pow10 : DataW Unit) = Lib.tabData .u64 Lib.pow10Tab := by kernel_rfl
theorem namesData : (Rows.laid_quintadena_words_noteNames : DataW Unit) = strData nmL := by kernel_rfl
theorem semisData : (Rows.laid_quintadena_words_letterSemitones : DataW Unit) = Lib.tabData .i64 semL := by kernel_rfl

theorem maxl_of_shaped {W : World} (h : W.ShapedOpen Tryd.prog) : ∃ m, W.cell? ⟨2, 0, none⟩ = some (.int .i64 m) :=
  Go.Proofs.cell_of_shapedOpen_int (zero := #[.int .i64 0]) (t := 3) h (of_decide_eq_true (by kernel_rfl)) (by kernel_rfl) rfl (by kernel_rfl) (by kernel_rfl) Tryd.underlying3

theorem tabs_of_laid {W : World} (hL : laidMetH Tryd.prog Rows.wordsKnownRow.laid W) (hS : W.ShapedOpen Tryd.prog) : Tabs W := by
  have h : laidMet Tryd.prog Rows.wordsKnownRow.laid W := hL
  have v0 := vr_of_laid h (n := "quintadena/words.noteNames") (d := Rows.laid_quintadena_words_noteNames) (by simp [Rows.wordsKnownRow])
  have v1 := vr_of_laid h (n := "quintadena/words.letterSemitones") (d := Rows.laid_quintadena_words_letterSemitones) (by simp [Rows.wordsKnownRow])
  have v2 := vr_of_laid h (n := "internal/strconv.uint64pow10") (d := Rows.laid_internal_strconv_uint64pow10) (by simp [Rows.wordsKnownRow])
  have v3 := vr_of_laid h (n := "strconv.ErrSyntax") (d := Rows.laid_strconv_ErrSyntax) (by simp [Rows.wordsKnownRow])
  have v4 := vr_of_laid h (n := "strconv.ErrRange") (d := Rows.laid_strconv_ErrRange) (by simp [Rows.wordsKnownRow])
  rw [namesData] at v0
  rw [semisData] at v1
  rw [powData] at v2
  refine ⟨?_, ?_, tab_of_vr Tryd.gPow Tryd.tPowT Tryd.underlying137 Tryd.underlying113 Tryd.cU64 Tryd.cA20 v2, iface_of_vr Tryd.tSyn Tryd.tSynT Tryd.underlying65 v3, iface_of_vr Tryd.tRan Tryd.tRanT Tryd.underlying65 v4, maxl_of_shaped hS⟩
  · intro i hi
    obtain ⟨g, t, cs, fuel, p, hg, ht, hv, hd⟩ := v0
    obtain rfl := Option.some.inj (Tryd.tNames.symm.trans hg)
    obtain rfl := Option.some.inj (Tryd.tNamesT.symm.trans ht)
    have := strs_of_trod Tryd.underlying70 Tryd.underlying9 Tryd.cStr Tryd.cA12 hd i (by simpa [nmL] using hi)
    rw [World.var?_cell hg hv i, ← this]; simp
  · intro i hi
    have := (tab_of_vr Tryd.tSemis Tryd.tSemisT Tryd.underlying74 Tryd.underlying3 Tryd.cInt Tryd.cA7 v1).cell Tryd.tSemis i (by simpa [semL] using hi)
    exact this
end Go.Proofs.YtdncfignegagjaaDoor
