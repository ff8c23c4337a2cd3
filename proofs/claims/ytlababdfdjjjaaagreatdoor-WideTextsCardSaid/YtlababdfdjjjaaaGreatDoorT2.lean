import Derived.Test.YtlababdfdjjjaaaGreatDoorT1
import Derived.Test.YtlababdfdjjjaaaGreatDoorN14n
import Derived.Test.YtlababdfdjjjaaaGreatDoorNI
import Derived.Sort.OwnSorted
namespace Go.Proofs.YtlababdfdjjjaaaGreatDoor
open Go.RowKit Go.Sort

/-! The program's Text. -/
theorem SlC.grownNe {w w' : World} {B : Nat} {v : Value} {cs : List Value} {row : Option Nat} (h : SlC w B v cs) (hg : w.grownBy w' row) (hne : ∀ k, v.ownBlock = some k → row ≠ some k) (hB : B ≤ w.heap.size) : SlC w' B v cs := by
  obtain ⟨A, cap, rfl, hc, h⟩ := h
  refine ⟨A, cap, rfl, hc, fun hcs => ?_⟩
  obtain ⟨g, o, rfl, hgB, hx⟩ := h hcs
  refine ⟨g, o, rfl, hgB, fun j x hj => ?_⟩
  rw [World.cell?_of_block (w := w) (hg.block g (by omega) (fun e => hne g rfl e.symm))]
  exact hx j x hj
theorem Num.grownNe {w w' : World} {B n : Nat} {v : Value} {row : Option Nat} (h : Num w B v n) (hg : w.grownBy w' row) (hne : ∀ k, v.ownBlock = some k → row ≠ some k) (hB : B ≤ w.heap.size) : Num w' B v n := ⟨SlC.grownNe h.1 hg hne hB, h.2⟩
def strV1 (l : List UInt8) : Value := .string ⟨l.toArray⟩
theorem Tryz.infoS : (Tryz.prog.info? 9).map (fun i => (i.zero, i.size, i.bytes)) = some (some (.string ⟨#[]⟩), 1, 16) := by kernel_rfl
def textW (l : List Nat) : List UInt8 × Int := if examW [l] = 0 then (Lib.decDigits (val l), 0) else ([], examW [l])
theorem Gs.count {n r : Nat} {gs : List (List UInt8)} (h : Gs n r gs) (hr : 0 < r) {K : Nat} (hn : n < 2 ^ K) : gs.length < K := by
  obtain ⟨-, -, h3⟩ := h
  have h4 : 10 ^ (9 * gs.length) ≤ n := Nat.le_trans (Nat.le_mul_of_pos_left _ hr) (by omega)
  rcases Nat.lt_or_ge gs.length K with h | h
  · exact h
  · exfalso
    have h5 : 2 ^ K ≤ 2 ^ gs.length := Nat.pow_le_pow_right (by omega) h
    have h6 : 2 ^ gs.length ≤ 10 ^ gs.length := Nat.pow_le_pow_left (by omega) _
    have h7 : 10 ^ gs.length ≤ 10 ^ (9 * gs.length) := Nat.pow_le_pow_right (by omega) (by omega)
    omega
/-- The groups, and what is left. -/
def TxRel (w : World) (m : Nat) (gv rv lv : Value) (wr : World) : Prop :=
  ∃ (gs : List (List UInt8)) (r lo : Nat), Gs m r gs ∧ gs.length ≤ 20000 ∧ Num wr wr.heap.size rv r ∧ (dg r).length ≤ 512 ∧ lv = .int .u32 (lo : Int) ∧ wr.ownsRow w.heap.size 9 1 gv gs.length (gs.map strV1) ∧ Below w.heap.size w wr

set_option maxRecDepth 100000 in
set_option maxHeartbeats 4000000 in
theorem Text_any (va : Value) (la : List Nat) (w : World) (ha : Arg w va la) (hT : Tabs w) :
    Calls Tryz.prog 23 #[va] w fun e w' => e = .returned (.tuple #[.string ⟨(textW la).1.toArray⟩, .int .i64 (textW la).2]) ∧ Below w.heap.size w w' := by
  obtain ⟨i0, hi0, hz0, hz1, hz2⟩ := info_parts Tryz.infoS
  have hex := exam1 va la w ha
  have hbl : Below w.heap.size w (w.alloc (.cells #[va] 24)) := (Below.refl _ w).alloc (Nat.le_refl _) _
  have ha1 := ha.up hbl
  obtain ⟨A, capa, rfl, -⟩ := ha.1.form
  unfold textW
  by_cases h : examW [la] = 0
  · obtain ⟨n1, n2, n3⟩ := ha1.num h (by simp)
    rw [if_pos h]
    rw [h] at hex
    have hz := isZero_any _ _ _ _ n1
    have HEX := Lib.hid hex
    obtain ⟨K, hK, hm⟩ : ∃ K, K ≤ 16384 ∧ val la < 2 ^ K := by
      have h2 : ∀ k, LB ^ k = 2 ^ (32 * k) := fun k => by rw [Nat.pow_mul]; rfl
      have h1 := (dg_le (n := val la) (k := (dg (val la)).length)).1 (Nat.le_refl _)
      rw [h2] at h1
      exact ⟨_, by omega, h1⟩
    have HM := Lib.hid hm
    clear hm
    have HT := Lib.hid hT
    have HBL := Lib.hid hbl
    clear hex ha n3 h hT
    generalize la.length = l1 at *
    generalize val la = m at *
    by_cases h0 : m = 0
    · subst h0
      rw [decide_eq_true rfl] at hz
      have HZ := Lib.hid hz
      clear hz n1 n2 ha1 hbl
      have hdec : Lib.decDigits 0 = [48] := dec_small (by omega)
      rw [hdec]
      go_enter Tryz.func23, Tryz.ntmps23
      go_wp2_with fail
      refine HEX.out.mono ?_
      rintro e w1 ⟨rfl, rfl⟩
      go_wp2_with fail
      refine HZ.out.mono ?_
      rintro e w2 ⟨he, rfl⟩
      subst he
      go_wp2_with fail
      go_ret2
      exact ⟨rfl, HBL.out⟩
    · rw [decide_eq_false h0] at hz
      have HZ := Lib.hid hz
      have HN1 := Lib.hid n1
      have HN2 := Lib.hid n2
      have H0 := Lib.hid h0
      clear hz n1 n2 ha1 hbl h0
      go_enter Tryz.func23, Tryz.ntmps23
      go_wp2_with fail
      refine HEX.out.mono ?_
      rintro e w1 ⟨rfl, rfl⟩
      go_wp2_with fail
      refine HZ.out.mono ?_
      rintro e w2 ⟨he, rfl⟩
      subst he
      go_wp2_with fail
      go_loopw [5, 6, 7] (fun gv rv lv wr => TxRel w m gv rv lv wr) (fun _ rv _ wr => numOf wr rv)
      case atStart => exact ⟨[], m, 0, Gs.start m, Nat.zero_le _, HN1.out, HN2.out, rfl, World.ownsRow_nil _ _ _ _, HBL.out⟩
      case round =>
        obtain ⟨gs, r, lo, hG, hk, hr, hrl, rfl, hown, hb⟩ := hrel
        have e2 := numOf_eq hr
        have hzr := isZero_any _ _ _ _ hr
        have HG := Lib.hid hG
        have HR := Lib.hid hr
        have HB := Lib.hid hb
        have E2 := Lib.hid e2
        have HRL := Lib.hid hrl
        clear hG hb e2 hrl
        by_cases hr0 : r = 0
        · rw [decide_eq_true hr0] at hzr
          have HZR := Lib.hid hzr
          subst hr0
          clear hzr hr
          have hne : gs ≠ [] := by
            intro e
            have h3 := HG.out.2.2
            rw [e] at h3
            rw [show ([] : List (List UInt8)).reverse.flatten = [] from rfl, dv_nil] at h3
            exact H0.out (by omega)
          have htx := HG.out.text H0.out
          have hlen1 : (Lib.join gs.reverse []).length = 9 * gs.length := by rw [join_rev]; exact HG.out.2.1
          obtain ⟨g, cap, cur, rfl, hg0, hcell, hcap, hcapm, hcur, htk⟩ : ∃ g cap cur, u5 = .slice (some ⟨g, 0, none⟩) gs.length cap ∧ w.heap.size ≤ g ∧ wr.heap[g]? = some (.cells cur 9 (0, 0)) ∧ gs.length ≤ cap ∧ cap ≤ maxLen ∧ cur.size = cap * 1 ∧ cur.toList.take (gs.length * 1) = gs.map strV1 := by
            obtain ⟨-, hv⟩ := hown
            rcases hv with ⟨_, hn⟩ | hv
            · exact absurd (List.eq_nil_of_length_eq_zero hn) hne
            · exact hv
          have hH : Holds encStr wr g 0 gs.toArray := fun j hj => by
            have hj' : j < gs.length := by simpa using hj
            refine ⟨?_, by simp [World.frozen?, hcell]⟩
            rw [Go.Joins.cell_of_block hcell, Nat.zero_add]
            have h1 : (cur.toList.take (gs.length * 1))[j]? = some (strV1 gs[j]) := by rw [htk, List.getElem?_map, List.getElem?_eq_getElem hj']; rfl
            rw [List.getElem?_take, if_pos (by omega), Array.getElem?_toList] at h1
            rw [h1]
            simp [encStr, strV1, hj']
          have hrev := Tryz.slices_Reverse_string g 0 cap gs wr hH (by omega)
          have hjn : ∀ n, Calls Tryz.prog 82 #[.slice (some ⟨g, 0, none⟩) gs.length cap, .string ⟨#[]⟩] (putRow encStr (Sort.ahead wr n) g 0 gs.reverse.toArray) fun e w' => e = .returned (.string ⟨(Lib.join gs.reverse []).toArray⟩) ∧ Below wr.heap.size (putRow encStr (Sort.ahead wr n) g 0 gs.reverse.toArray) w' := fun n => by
            have h := Tryz.strings_Join g 0 cap (gs.reverse.map fun l => (⟨l.toArray⟩ : ByteArray)) ⟨#[]⟩ (putRow encStr (Sort.ahead wr n) g 0 gs.reverse.toArray) (fun j x hx => by
                rw [List.getElem?_map] at hx
                obtain ⟨y, hy, rfl⟩ := Option.map_eq_some_iff.1 hx
                have hj : j < gs.reverse.length := (List.getElem?_eq_some_iff.1 hy).1
                have hH2 : Holds encStr (Sort.ahead wr n) g 0 gs.toArray := hH
                have h2 := cell?_putRow encStr (Sort.ahead wr n) g 0 gs.toArray gs.reverse.toArray hH2 (by simp) j (by simpa using hj)
                rw [h2]
                have h3 : gs.reverse.toArray[j]! = y := by
                  rw [getElem!_pos _ j (by simpa using hj)]
                  rw [List.getElem?_eq_getElem hj] at hy
                  simpa using hy
                rw [h3])
              (by rw [show (putRow encStr (Sort.ahead wr n) g 0 gs.reverse.toArray).heap.size = wr.heap.size by simp [putRow, mapBlock, Sort.ahead]]; exact (Array.getElem?_eq_some_iff.1 hcell).1)
              (by simp; omega) (by simpa using hcap) (by simp only [List.map_map]; rw [show (gs.reverse.map ((fun x : ByteArray => x.data.toList) ∘ fun l => (⟨l.toArray⟩ : ByteArray))) = gs.reverse by simp [Function.comp_def]]; rw [hlen1]; omega)
            simp only [List.map_map] at h
            rw [show (gs.reverse.map ((fun x : ByteArray => x.data.toList) ∘ fun l => (⟨l.toArray⟩ : ByteArray))) = gs.reverse by simp [Function.comp_def]] at h
            simpa using h
          have hgrow : ∀ n, Below w.heap.size w (putRow encStr (Sort.ahead wr n) g 0 gs.reverse.toArray) := fun n => by
            have h1 : wr.grownBy (grow (putRow encStr (Sort.ahead wr n) g 0 gs.reverse.toArray) #[]) (some g) := grownBy_sorted _
            rw [grow_empty] at h1
            exact Below.grown HB.out h1 HB.out.size (fun k hk => by cases hk; exact hg0)
          obtain ⟨js, hjs⟩ : ∃ js : ByteArray, js = ⟨(Lib.join gs.reverse []).toArray⟩ := ⟨_, rfl⟩
          have htl := Tryz.strings_TrimLeft_one js 48 (by decide)
          rw [show Lib.trimLeftB js.data.toList 48 = Lib.decDigits m by rw [hjs]; exact htx] at htl
          rw [← hjs] at hjn
          have HREV := Lib.hid hrev
          have HJN := Lib.hid hjn
          have HGROW := Lib.hid hgrow
          have HTL := Lib.hid htl
          clear hrev hjn hgrow htl hH htk hcur hcapm hcap hcell htx hlen1 hjs hown hk hne
          generalize gs.reverse.toArray = ga at *
          generalize gs.length = gl at *
          go_wp2_with fail
          refine HZR.out.mono ?_
          rintro e w3 ⟨he, rfl⟩
          subst he
          go_wp2_with fail
          refine HREV.out.mono ?_
          rintro e w4 ⟨he, n, rfl⟩
          subst he
          go_wp2_with fail
          refine (HJN.out n).mono ?_
          rintro e w5 ⟨he, hb5⟩
          subst he
          go_wp2_with fail
          refine (HTL.out _).mono ?_
          rintro e w6 ⟨he, rfl⟩
          subst he
          go_wp2_with fail
          go_ret2
          exact ⟨rfl, (HGROW.out n).trans (hb5.mono HB.out.size)⟩
        · rw [decide_eq_false hr0] at hzr
          have HZR := Lib.hid hzr
          have hcnt := HG.out.count (by omega) HM.out
          have hlb := limb_new _ r 1000000000 wr HR.out (by have := HRL.out; omega) (by omega) (by rw [LB_eq]; omega)
          have hgt : ∀ W, Below wr.heap.size wr W → Calls Tryz.prog 79 #[.int .u32 ((r % 1000000000 : Nat) : Int)] W fun e w' => e = .returned (.string ⟨(g9 (r % 1000000000)).toArray⟩) ∧ Below W.heap.size W w' := fun W hW => groupText_any _ (by omega) W ((HT.out.below HB.out).below hW)
          have hst := HG.out.step
          have HST := Lib.hid hst
          have HLB := Lib.hid hlb
          have HGT := Lib.hid hgt
          have hml : r / 1000000000 < r := by omega
          have HML := Lib.hid hml
          have hrl2 : (dg (r / 1000000000)).length ≤ 512 := Nat.le_trans (dg_mono (by omega)) HRL.out
          have HRL2 := Lib.hid hrl2
          clear hzr hlb hgt hst hr hr0 hml hrl2
          generalize r / 1000000000 = q at *
          generalize hlo : r % 1000000000 = lo2 at *
          clear hlo
          obtain ⟨gt, hgt⟩ : ∃ gt : ByteArray, gt = ⟨(g9 lo2).toArray⟩ := ⟨_, rfl⟩
          rw [← hgt] at HGT
          have HGE := Lib.hid (show strV1 (g9 lo2) = .string gt by rw [hgt]; rfl)
          clear hgt
          go_wp2_with fail
          refine HZR.out.mono ?_
          rintro e w3 ⟨he, rfl⟩
          subst he
          go_wp2_with fail
          refine HLB.out.mono ?_
          rintro e w4 ⟨v4, he, hn4, hb4, ho4⟩
          subst he
          have HN4 := Lib.hid hn4
          have HB4 := Lib.hid hb4
          have HO4 := Lib.hid ho4
          clear hn4 hb4 ho4
          go_wp2_with fail
          refine (HGT.out w4 HB4.out).mono ?_
          rintro e w5 ⟨he, hb5⟩
          subst he
          have HB5 := Lib.hid hb5
          have hb35 := HB4.out.trans (hb5.mono HB4.out.size)
          have hown5 := hown.kept (grownBy_of_below hb35) (by cases u5.ownBlock <;> simp)
          have hN5 := HN4.out.up hb5
          have hlt := fun j hj => hown.lt j hj
          have HB35 := Lib.hid hb35
          clear hb5 hb35
          have hbs := HB.out.size
          go_wp2_with (at_builtin; refine wpList_append_own _ rfl _ _ 73 rfl w.heap.size 9 i0 (.string ⟨#[]⟩) 1 16 Tryz.underlying73 hi0 hz0 hz1 hz2 rfl (by decide) _ _ _ rfl (hown5.alloc _) ⟨w5.heap.size, 0, none⟩ 1 1 [.string gt] rfl rfl (cell_one_new _ _ _) (by simp [Value.oneCell']) (by unfold maxLen; omega) (by omega) (by have := HB35.out.size; simp; omega) ?_; intro v' w6 hown6 hgrow6 _)
          go_roundw
          case rel =>
            have hb5a : Below w5.heap.size w5 (w5.alloc (.cells #[.string gt] 9)) := (Below.refl _ _).alloc (Nat.le_refl _) _
            have hbb := (HB.out.trans (HB35.out.mono hbs)).trans (hb5a.mono (Nat.le_trans hbs HB35.out.size))
            have hN6 := Num.grownNe (Num.below hN5 hb5a) hgrow6 (fun k hk e => by
              rw [HO4.out] at hk
              cases hk
              have := (hlt _ e).2
              omega) hb5a.size
            refine ⟨gs ++ [g9 lo2], q, lo2, HST.out, by simp; omega, hN6.more (Nat.le_trans hb5a.size hgrow6.size), HRL2.out, rfl, ?_, ?_⟩
            · simpa [HGE.out] using hown6
            · exact hbb.grown hgrow6 hbb.size (own_ge hown5)
          case measure =>
            have hb5a : Below w5.heap.size w5 (w5.alloc (.cells #[.string gt] 9)) := (Below.refl _ _).alloc (Nat.le_refl _) _
            have hN6 := Num.grownNe (Num.below hN5 hb5a) hgrow6 (fun k hk e => by
              rw [HO4.out] at hk
              cases hk
              have := (hlt _ e).2
              omega) hb5a.size
            rw [numOf_eq (hN6.more (Nat.le_trans hb5a.size hgrow6.size)), E2.out]
            exact HML.out
  · rw [if_neg h]
    generalize examW [la] = ec at *
    have q1 : (ec == 0) = false := by simp [h]
    have q2 : (ec != 0) = true := by simp [h]
    have HEX := Lib.hid hex
    clear hex ha ha1 h
    generalize la.length = l1 at *
    go_enter Tryz.func23, Tryz.ntmps23
    go_wp2_with fail
    refine HEX.out.mono ?_
    rintro e w1 ⟨rfl, rfl⟩
    go_wp2_with fail
    go_ret2
    exact ⟨rfl, hbl⟩
end Go.Proofs.YtlababdfdjjjaaaGreatDoor
