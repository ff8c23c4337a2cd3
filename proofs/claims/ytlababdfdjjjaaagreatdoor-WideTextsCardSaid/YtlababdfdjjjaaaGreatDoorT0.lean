import Derived.Test.YtlababdfdjjjaaaGreatDoorRows
import Derived.Test.YtlababdfdjjjaaaGreatDoorTie
import Derived.Test.YtlababdfdjjjaaaGreatDoorG0
import Derived.OpenShut
import Derived.Lib.LaidTab
import Derived.Lib.ItoaNum
import Derived.Lib.SmallJoins
import Derived.Stop.LaidErr
import Derived.Stop.ErrReads
namespace Go.Proofs.YtlababdfdjjjaaaGreatDoor
open Go.RowKit Go.ChangeShapes Go.WideShapes

/-! The tables that the laws read, in memory. -/
structure Tabs (W : World) : Prop where
  pow : Lib.TabIs Tryz.prog W "internal/strconv.uint64pow10" .u64 Lib.pow10Tab
theorem Tryz.gPow : Tryz.prog.globalNamed "internal/strconv.uint64pow10" = some 2 := by kernel_rfl
theorem Tabs.below {W W' : World} (h : Tabs W) (hb : Below W.heap.size W W') : Tabs W' where
  pow := Go.Joins.tab_stays Tryz.gPow h.pow hb (Nat.le_refl _)
theorem Tabs.up {W W' : World} {B : Nat} (h : Tabs W) (hB : W.heap.size ≤ B) (hb : Below B W W') : Tabs W' := h.below (hb.mono hB)

/-! From the row's list. -/
def VR (P : Program) (w : World) (n : String) (d : DataW Unit) : Prop :=
  ∃ g t cs fuel p, P.globalNamed n = some g ∧ (P.globals[g]?).map (·.type) = some t ∧ w.var? P n = some cs ∧ DataW.trod (fun _ => ()) P w 0 (fun _ => true) false fuel t cs.toList = some (d, p)
theorem vr_of_vars {P : Program} {w : World} : ∀ {l : List (String × DataW Unit)} {ps : List MemPlace}, DataW.LaidVars P w l ps → ∀ n d, (n, d) ∈ l → VR P w n d
  | [], _, _, _, _, hm => by cases hm
  | (n', d') :: r, ps, h, n, d, hm => by
    obtain ⟨g, t, cs, fuel, p, q, h1, h2, h3, h4, h5, _⟩ := h
    rcases List.mem_cons.1 hm with e | e
    · cases e
      exact ⟨g, t, cs, fuel, p, h1, h2, h3, h4⟩
    · exact vr_of_vars h5 n d e
theorem vr_of_laid {P : Program} {w : World} {l : List (String × DataW Unit)} (h : laidMet P l w) {n : String} {d : DataW Unit} (hm : (n, d) ∈ l) : VR P w n d :=
  let ⟨_, hv, _⟩ := h
  vr_of_vars hv n d hm

theorem tab_of_vr {P : Program} {W : World} {name : String} {k : IntKind} {zs : List Int} {g : Nat} {t e : TypeId} {n : Nat}
    (hg : P.globalNamed name = some g) (hty : (P.globals[g]?).map (·.type) = some t) (ht : P.underlying t = some (.array n e)) (he : P.underlying e = some (.int k)) (hce : P.cellsOf e = 1) (hct : P.cellsOf t = n)
    (h : VR P W name (Lib.tabData k zs)) : Lib.TabIs P W name k zs := by
  obtain ⟨g', t', cs, fuel, p, hg', ht', hvar, hd⟩ := h
  obtain rfl := Option.some.inj (hg.symm.trans hg')
  obtain rfl := Option.some.inj (hty.symm.trans ht')
  unfold Lib.TabIs
  rw [hvar, ← Lib.cells_of_tab ht he hce hct hd]

/-- An array of strings that is listed holds these strings. -/
def strData {H : Type} (ls : List (List UInt8)) : DataW H := .agg (ls.map fun z => .lit (.string z))
theorem strs_of_trod {H : Type} {enc : TypeId × Value → H} {P : Program} {w : World} {base : Nat} {sp : Nat → Bool} {held : Bool} {fuel : Nat} {t e : TypeId} {n : Nat} {cs : List Value} {ls : List (List UInt8)} {p : List MemPlace}
    (ht : P.underlying t = some (.array n e)) (he : P.underlying e = some .string) (hce : P.cellsOf e = 1) (_hct : P.cellsOf t = n)
    (h : DataW.trod enc P w base sp held fuel t cs = some (strData ls, p)) : ∀ i, i < ls.length → cs[i]? = some (.string ⟨(ls.getD i []).toArray⟩) := by
  obtain ⟨xs, m, _, hx, _, hxl, hall⟩ := Go.DataW.trod_array ht h
  have hxs : xs.map (·.1) = ls.map fun z => (DataW.lit (.string z) : DataW H) := by
    have := congrArg Prod.fst hx
    simpa [strData] using this.symm
  have hll : ls.length = n := by
    have := congrArg List.length hxs
    simp at this; omega
  intro i hi
  have hf := hall i (by omega)
  rw [hce, Nat.mul_one] at hf
  have hxi : i < xs.length := by omega
  rw [List.getElem?_eq_getElem hxi] at hf
  obtain ⟨s, hc, hd, _⟩ := Go.DataW.trod_string he hf
  have h1 : cs[i]? = some (.string s) := by
    have := congrArg (·[0]?) hc
    simpa [List.getElem?_take, List.getElem?_drop] using this
  have h2 : (xs.map (·.1))[i]? = some (DataW.lit (.string s.data.toList) : DataW H) := by simp [List.getElem?_eq_getElem hxi, hd]
  rw [hxs, List.getElem?_map, List.getElem?_eq_getElem hi] at h2
  simp only [Option.map_some, Option.some.injEq, DataW.lit.injEq, Lit.string.injEq] at h2
  rw [h1, List.getD_eq_getElem?_getD, List.getElem?_eq_getElem hi, Option.getD_some, h2]

theorem iface_of_vr {P : Program} {W : World} {name nm : String} {d : DataW Unit} {g : Nat} {ti : TypeId} {ms : Array (String × TypeId)}
    (hg : P.globalNamed name = some g) (hty : (P.globals[g]?).map (·.type) = some ti) (hi : P.underlying ti = some (.interface ms))
    (h : VR P W name (.iface nm d)) : ∃ te pe, W.cell? ⟨g, 0, none⟩ = some (.iface te pe) := by
  obtain ⟨g', t', cs, fuel, p, hg', ht', hvar, hd⟩ := h
  obtain rfl := Option.some.inj (hg.symm.trans hg')
  obtain rfl := Option.some.inj (hty.symm.trans ht')
  cases fuel with
  | zero => simp [DataW.trod] at hd
  | succ m =>
    obtain ⟨l⟩ := cs
    unfold DataW.trod at hd
    rw [hi] at hd
    simp only at hd
    have hc := World.var?_cell hg hvar 0
    split at hd
    all_goals first
      | (rename_i te pe; exact ⟨te, pe, by simpa using hc⟩)
      | (rename_i te pe _; exact ⟨te, pe, by simpa using hc⟩)
      | simp_all

theorem Tryz.tPowT : (Tryz.prog.globals[2]?).map (·.type) = some 164 := by kernel_rfl
theorem Tryz.tSyn : Tryz.prog.globalNamed "strconv.ErrSyntax" = some 0 := by kernel_rfl
theorem Tryz.tSynT : (Tryz.prog.globals[0]?).map (·.type) = some 82 := by kernel_rfl
theorem Tryz.tRan : Tryz.prog.globalNamed "strconv.ErrRange" = some 1 := by kernel_rfl
theorem Tryz.tRanT : (Tryz.prog.globals[1]?).map (·.type) = some 82 := by kernel_rfl
theorem Tryz.cU64 : Tryz.prog.cellsOf 22 = 1 := by kernel_rfl
theorem Tryz.cA20 : Tryz.prog.cellsOf 164 = 20 := by kernel_rfl
theorem powData : (Rows.laid_internal_strconv_uint64pow10 : DataW Unit) = Lib.tabData .u64 Lib.pow10Tab := by kernel_rfl
theorem tabs_of_laid {W : World} (hL : laidMetH Tryz.prog Rows.wideAddsRow.laid W) : Tabs W := by
  have h : laidMet Tryz.prog Rows.wideAddsRow.laid W := hL
  have v2 := vr_of_laid h (n := "internal/strconv.uint64pow10") (d := Rows.laid_internal_strconv_uint64pow10) (by simp [Rows.wideAddsRow])
  rw [powData] at v2
  exact ⟨tab_of_vr Tryz.gPow Tryz.tPowT Tryz.underlying164 Tryz.underlying22 Tryz.cU64 Tryz.cA20 v2⟩
/-- The tables with the two errors. -/
structure TabsE (W : World) : Prop extends Tabs W where
  esyn : ∃ te pe, W.cell? ⟨0, 0, none⟩ = some (.iface te pe)
  eran : ∃ te pe, W.cell? ⟨1, 0, none⟩ = some (.iface te pe)
theorem TabsE.below {W W' : World} (h : TabsE W) (hb : Below W.heap.size W W') : TabsE W' where
  pow := (h.toTabs.below hb).pow
  esyn := let ⟨te, pe, he⟩ := h.esyn; ⟨te, pe, cell_later hb he⟩
  eran := let ⟨te, pe, he⟩ := h.eran; ⟨te, pe, cell_later hb he⟩
theorem tabsE_of_laid {W : World} (hL : laidMetH Tryz.prog Rows.wideTextsRow.laid W) : TabsE W := by
  have h : laidMet Tryz.prog Rows.wideTextsRow.laid W := hL
  have v2 := vr_of_laid h (n := "internal/strconv.uint64pow10") (d := Rows.laid_internal_strconv_uint64pow10) (by simp [Rows.wideTextsRow])
  have v3 := vr_of_laid h (n := "strconv.ErrSyntax") (d := Rows.laid_strconv_ErrSyntax) (by simp [Rows.wideTextsRow])
  have v4 := vr_of_laid h (n := "strconv.ErrRange") (d := Rows.laid_strconv_ErrRange) (by simp [Rows.wideTextsRow])
  rw [powData] at v2
  exact ⟨⟨tab_of_vr Tryz.gPow Tryz.tPowT Tryz.underlying164 Tryz.underlying22 Tryz.cU64 Tryz.cA20 v2⟩, iface_of_vr Tryz.tSyn Tryz.tSynT Tryz.underlying82 v3, iface_of_vr Tryz.tRan Tryz.tRanT Tryz.underlying82 v4⟩
end Go.Proofs.YtlababdfdjjjaaaGreatDoor
