import Derived.Test.YtlababdfdjjjaaaGreatDoorNF
import Derived.Laws.BitsLemmas
import Derived.Laws.BitsAllLaws
import Derived.Deep.Cut
import Derived.StillTailTactics
import Derived.Laws.ShiftsVarLaws
namespace Go.Proofs.YtlababdfdjjjaaaGreatDoor
theorem SlC.other {w : World} {B k i : Nat} {v u : Value} {cs : List Value} (h : SlC w B v cs) (hne : v.ownBlock ≠ some k) : SlC (w.setCell ⟨k, i, none⟩ u) B v cs := by
  obtain ⟨A, cap, rfl, hc, h⟩ := h
  refine ⟨A, cap, rfl, hc, fun hcs => ?_⟩
  obtain ⟨g, o, rfl, hg, hx⟩ := h hcs
  refine ⟨g, o, rfl, hg, fun j x hj => ?_⟩
  rw [World.cell?_setCell_other _ _ _ _ (by intro e; injection e with e; exact hne (by rw [← e]; rfl))]
  exact hx j x hj
theorem Num.other {w : World} {B k i n : Nat} {v u : Value} (h : Num w B v n) (hne : v.ownBlock ≠ some k) : Num (w.setCell ⟨k, i, none⟩ u) B v n := ⟨SlC.other h.1 hne, h.2⟩
end Go.Proofs.YtlababdfdjjjaaaGreatDoor
namespace Go.Proofs.YtlababdfdjjjaaaGreatDoor
open Go.RowKit

/-! The reference's numbers. -/
def Fresh (w : World) (v : Value) : Prop := ∀ g, v.ownBlock = some g → w.heap.size ≤ g
theorem Fresh.mono {w w1 : World} {v : Value} (h : Fresh w1 v) (hs : w.heap.size ≤ w1.heap.size) : Fresh w v := fun g hg => Nat.le_trans hs (h g hg)
def RNum (w : World) (n : Nat) (e : Ending) (w' : World) : Prop := ∃ v, e = .returned v ∧ Num w' w'.heap.size v n ∧ Below w.heap.size w w' ∧ Fresh w v

theorem rlimb_any (v : Value) (l : List Nat) (k : Nat) (B : Nat) (w : World) (hv : Lim w B v l) :
    Calls Tryz.prog 74 #[v, .int .i64 (k : Int)] w fun e w' => e = .returned (.int .u64 ((l[k]?.getD 0 : Nat) : Int)) ∧ w = w' := by
  obtain ⟨A, cap, rfl, hcap⟩ := hv.form
  by_cases h : k < l.length
  · obtain ⟨x, hx⟩ : ∃ x, l[k]? = some x := ⟨l[k], List.getElem?_eq_getElem h⟩
    obtain ⟨g, o, rfl, hg, c0⟩ := hv.cell hx
    have hb := Lim.lt hv.2 hx
    rw [hx, Option.getD_some]
    have t1 : decide ((k : Int) < (l.length : Int)) = true := decide_eq_true (by omega)
    have h0 : (0 : Int) ≤ (k : Int) := Int.natCast_nonneg k
    have h2 : (k : Int) < (l.length : Int) := by omega
    clear hv hx
    go_enter Tryz.func74, Tryz.ntmps74
    go_wp2
    go_ret
    exact ⟨rfl, rfl⟩
  · rw [List.getElem?_eq_none (by omega), Option.getD_none]
    have t1 : decide ((k : Int) < (l.length : Int)) = false := decide_eq_false (by omega)
    clear hv
    go_enter Tryz.func74, Tryz.ntmps74
    go_wp2
    go_ret
    exact ⟨rfl, rfl⟩

theorem rnum_own {w3 : World} {base n k : Nat} {v' : Value} (h : w3.ownsRow base 64 1 v' k ([] ++ (dg n).map u32)) : Num w3 w3.heap.size v' n :=
  ⟨SlC.of_own (by simpa using h), ok_dg n⟩
theorem own_empty (w : World) : (w.alloc (.cells #[] 64)).ownsRow w.heap.size 64 1 (.slice (some ⟨w.heap.size, 0, none⟩) 0 0) 0 [] :=
  ⟨rfl, .inr ⟨w.heap.size, 0, #[], rfl, Nat.le_refl _, heap_alloc_new w _, Nat.le_refl _, Nat.zero_le _, rfl, rfl⟩⟩
theorem rbelow_grown {w w1 w3 : World} {v : Value} {n : Nat} {xs : List Value} (hb : Below w.heap.size w w1) (ho : w1.ownsRow w.heap.size 64 1 v n xs) (hg : w1.grownBy w3 v.ownBlock) : Below w.heap.size w w3 :=
  hb.grown hg hb.size (own_ge ho)

set_option maxRecDepth 100000 in
theorem rtrim_any (v : Value) (l : List Nat) (w : World) (hv : Lim w w.heap.size v l) (hlen : l.length ≤ 1000000000) :
    Calls Tryz.prog 76 #[v] w (RNum w (val l)) := by
  obtain ⟨A, cap, rfl, hcap⟩ := hv.form
  have HV := Lib.hid hv
  clear hv
  obtain ⟨i0, hi0, hz0, hz1, hz2⟩ := info_parts Tryz.infoU
  go_enter Tryz.func76, Tryz.ntmps76
  go_wp2
  go_loop [3] (fun n => ∃ k : Nat, k ≤ l.length ∧ n = .int .i64 k ∧ val (l.take k) = val l) (fun n => (intOf n).toNat)
  case atStart => exact ⟨l.length, Nat.le_refl _, rfl, by rw [List.take_length]⟩
  case round =>
    obtain ⟨k, hk, rfl, hr⟩ := hrel
    have HR := Lib.hid hr
    clear hr
    by_cases hk0 : 0 < k
    · obtain ⟨x, hx⟩ : ∃ x, l[k - 1]? = some x := ⟨l[k - 1]'(by omega), List.getElem?_eq_getElem (by omega)⟩
      obtain ⟨g, o, rfl, hg, c0⟩ := HV.out.cell hx
      obtain ⟨j, rfl⟩ : ∃ j, k = j + 1 := ⟨k - 1, by omega⟩
      simp only [Nat.add_sub_cancel] at hx c0
      have HX := Lib.hid hx
      clear hx
      by_cases hx0 : x = 0
      · subst hx0
        go_wp2
        go_round
        case rel => exact ⟨j, by omega, by go_num, trim_step HX.out HR.out⟩
        case measure => simp [intOf]
      · have q1 : ((x : Int) == 0) = false := by simp [hx0]
        have hsz : Below w.heap.size w (w.alloc (.cells #[] 64)) := (Below.refl _ _).alloc (Nat.le_refl _) _
        have hsrc := (HV.out.take (j + 1) hk).up hsz
        rw [trim_dg_end HV.out.2 HR.out (.inr ⟨x, by simpa using HX.out, hx0⟩)] at hsrc
        have hlen' : ((dg (val l)).map u32).length = (j + 1) * 1 := by rw [List.length_map, ← trim_dg_end HV.out.2 HR.out (.inr ⟨x, by simpa using HX.out, hx0⟩), List.length_take]; omega
        have hcells : ∀ j u, ((dg (val l)).map u32)[j]? = some u → (w.alloc (.cells #[] 64)).cell? ((⟨g, o, none⟩ : Addr).add j) = some u := by
          obtain ⟨ad, e, hc⟩ := SlC.src hsrc.1 (by rw [hlen']; omega)
          cases e
          exact hc
        have HD := Lib.hid hlen'
        have HC := Lib.hid hcells
        have HB := Lib.hid hsz
        clear hsz hsrc hlen' hcells
        go_wp2_with (at_builtin; refine wpList_append_own _ rfl _ _ 24 rfl w.heap.size 64 i0 (.int .u32 0) 1 4 Tryz.underlying24 hi0 hz0 hz1 hz2 rfl (by decide) _ 0 [] rfl (own_empty w) (⟨g, o, none⟩ : Addr) (j + 1) cap ((dg (val l)).map u32) rfl HD.out HC.out (one_u32 _) (by unfold maxLen; omega) (by omega) (by simp) ?_; intro v' w3 hown3 hgrow _)
        go_ret
        exact ⟨_, rfl, rnum_own hown3, rbelow_grown HB.out (own_empty w) hgrow, own_ge hown3⟩
    · obtain rfl : k = 0 := by omega
      rcases A with _ | ad
      · have h0 := HV.out.take 0 hk
        rw [trim_dg_end HV.out.2 HR.out (.inl rfl)] at h0
        have HN := Lib.hid h0
        clear h0
        go_wp2_with fail
        go_ret
        refine ⟨_, rfl, ?_, (Below.refl _ _).alloc (Nat.le_refl _) _, fun g h => by cases h; exact Nat.le_refl _⟩
        have e0 : dg (val l) = [] := (trim_dg_end HV.out.2 HR.out (.inl rfl)).symm
        unfold Num
        rw [e0]
        exact Lim.nil _ _ _ _
      · skip
        have hsz : Below w.heap.size w (w.alloc (.cells #[] 64)) := (Below.refl _ _).alloc (Nat.le_refl _) _
        have hsrc := (HV.out.take (0) hk).up hsz
        rw [trim_dg_end HV.out.2 HR.out (.inl rfl)] at hsrc
        have hlen' : ((dg (val l)).map u32).length = (0) * 1 := by rw [List.length_map, ← trim_dg_end HV.out.2 HR.out (.inl rfl), List.length_take]; omega
        have hcells : ∀ j u, ((dg (val l)).map u32)[j]? = some u → (w.alloc (.cells #[] 64)).cell? (ad.add j) = some u := by
          rw [← trim_dg_end HV.out.2 HR.out (.inl rfl)]
          intro j u h
          simp at h
        have HD := Lib.hid hlen'
        have HC := Lib.hid hcells
        have HB := Lib.hid hsz
        clear hsz hsrc hlen' hcells
        go_wp2_with (at_builtin; refine wpList_append_own _ rfl _ _ 24 rfl w.heap.size 64 i0 (.int .u32 0) 1 4 Tryz.underlying24 hi0 hz0 hz1 hz2 rfl (by decide) _ 0 [] rfl (own_empty w) ad (0) cap ((dg (val l)).map u32) rfl HD.out HC.out (one_u32 _) (by unfold maxLen; omega) (by omega) (by simp) ?_; intro v' w3 hown3 hgrow _)
        go_ret
        exact ⟨_, rfl, rnum_own hown3, rbelow_grown HB.out (own_empty w) hgrow, own_ge hown3⟩
end Go.Proofs.YtlababdfdjjjaaaGreatDoor
namespace Go.Proofs.YtlababdfdjjjaaaGreatDoor
open Go.RowKit

set_option maxRecDepth 100000 in
theorem rof_any (n : Nat) (hn : n < 18446744073709551616) (w : World) : Calls Tryz.prog 22 #[.int .u64 (n : Int)] w (RNum w n) := by
  obtain ⟨lo, hi, e1, e2, e3, e4, e5⟩ : ∃ lo hi : Nat, (n : Int) % 4294967296 = (lo : Int) ∧ (n : Int) / 4294967296 % 4294967296 = (hi : Int) ∧ lo < 4294967296 ∧ hi < 4294967296 ∧ n = lo + LB * hi :=
    ⟨n % 4294967296, n / 4294967296, by omega, by omega, by omega, by omega, by rw [LB_eq]; omega⟩
  have hrow : Row (w.alloc (.cells #[.int .u32 (lo : Int), .int .u32 (hi : Int)] 64)) w.heap.size [lo, hi] := heap_alloc_new w _
  have hb : Below w.heap.size w (w.alloc (.cells #[.int .u32 (lo : Int), .int .u32 (hi : Int)] 64)) := (Below.refl _ _).alloc (Nat.le_refl _) _
  have hlim := hrow.whole (by intro x hx; simp at hx; rcases hx with rfl | rfl <;> (rw [LB_eq]; assumption)) 2 (by simp)
  have htr := rtrim_any _ _ _ hlim (by simp)
  have hv : val [lo, hi] = n := by simp only [val, Nat.mul_zero, Nat.add_zero]; exact e5.symm
  rw [hv] at htr
  have HTR := Lib.hid htr
  have E1 := Lib.hid e1
  have e6 : IntKind.u64.wrap ((n : Int) / 4294967296) = (hi : Int) := by
    have : (n : Int) / 4294967296 = (hi : Int) := by omega
    rw [this]
    exact IntWalk.u64_in _ (by omega)
  have hn0 : (0 : Int) ≤ (n : Int) := Int.natCast_nonneg _
  clear htr hlim hrow e1 e2 e5 hn hv
  go_enter Tryz.func22, Tryz.ntmps22
  go_wp2_with fail
  rw [E1.out]
  refine HTR.out.mono ?_
  rintro e w3 ⟨v', he, hnum, hb3, hf⟩
  subst he
  go_wp2_with fail
  go_ret
  exact ⟨_, rfl, hnum, hb.trans (hb3.mono hb.size), hf.mono hb.size⟩

theorem dig_step (m j : Nat) : m / LB ^ (j + 1) = m / LB ^ j / LB := by rw [Nat.pow_succ, Nat.div_div_eq_div_mul]
theorem dig_same {m n j : Nat} (h : m / LB ^ (j + 1) = n / LB ^ (j + 1)) (hx : m / LB ^ j % LB = n / LB ^ j % LB) : m / LB ^ j = n / LB ^ j := by
  rw [dig_step, dig_step] at h
  rw [← Nat.div_add_mod (m / LB ^ j) LB, ← Nat.div_add_mod (n / LB ^ j) LB, h, hx]
theorem dig_less {m n j : Nat} (h : m / LB ^ (j + 1) = n / LB ^ (j + 1)) (hx : m / LB ^ j % LB < n / LB ^ j % LB) : m < n := by
  rw [dig_step, dig_step] at h
  have e1 := Nat.div_add_mod (m / LB ^ j) LB
  have e2 := Nat.div_add_mod (n / LB ^ j) LB
  have : m / LB ^ j < n / LB ^ j := by rw [← e1, ← e2, h]; omega
  rcases Nat.lt_or_ge m n with h1 | h1
  · exact h1
  · have := Nat.div_le_div_right (c := LB ^ j) h1
    omega

set_option maxRecDepth 100000 in
set_option maxHeartbeats 1000000 in
theorem rorder_any (va vb : Value) (la lb : List Nat) (B : Nat) (w : World) (ha : Lim w B va la) (hb : Lim w B vb lb) (hla : la.length ≤ 1000000000) (hlb : lb.length ≤ 1000000000) :
    Calls Tryz.prog 89 #[va, vb] w fun e w' => e = .returned (.int .i64 (cmpI (val la) (val lb))) ∧ w = w' := by
  obtain ⟨A, capa, rfl, hcapa⟩ := ha.form
  obtain ⟨A', capb, rfl, hcapb⟩ := hb.form
  have L1 := fun k w' (h : w = w') => rlimb_any (.slice A la.length capa) la k B w' (h ▸ ha)
  have L2 := fun k w' (h : w = w') => rlimb_any (.slice A' lb.length capb) lb k B w' (h ▸ hb)
  have D1 := fun k => limb_val ha.2 k
  have D2 := fun k => limb_val hb.2 k
  obtain ⟨N, hN⟩ : ∃ N : Nat, max (la.length : Int) (lb.length : Int) = (N : Int) := ⟨max la.length lb.length, by omega⟩
  have hst : val la / LB ^ N = val lb / LB ^ N := by
    rw [Nat.div_eq_of_lt (Nat.lt_of_lt_of_le (val_lt ha.2) (Nat.pow_le_pow_right LB_pos (by omega))), Nat.div_eq_of_lt (Nat.lt_of_lt_of_le (val_lt hb.2) (Nat.pow_le_pow_right LB_pos (by omega)))]
  have hN1 : N ≤ 1000000000 := by omega
  have hN0 : (0 : Int) ≤ (N : Int) := Int.natCast_nonneg _
  have HL1 := Lib.hid L1
  have HL2 := Lib.hid L2
  have HD1 := Lib.hid D1
  have HD2 := Lib.hid D2
  have HST := Lib.hid hst
  clear ha hb L1 L2 D1 D2 hst hcapa hcapb
  generalize val la = m at *
  generalize val lb = n at *
  have HC := Lib.hid (show (m < n → cmpI m n = -1) ∧ (m = n → cmpI m n = 0) ∧ (n < m → cmpI m n = 1) from ⟨cmpI_lt, cmpI_eq, cmpI_gt⟩)
  generalize cmpI m n = R at *
  go_enter Tryz.func89, Tryz.ntmps89
  go_wp2_with fail
  go_loop [5] (fun i => ∃ k : Nat, k ≤ N ∧ ((k = 0 ∧ i = .int .i64 (-1)) ∨ ∃ j, k = j + 1 ∧ i = .int .i64 (j : Int)) ∧ m / LB ^ k = n / LB ^ k) (fun i => (intOf i + 1).toNat)
  case atStart =>
    refine ⟨N, Nat.le_refl _, ?_, HST.out⟩
    rcases Nat.eq_zero_or_pos N with h | h
    · left; exact ⟨h, by rw [h]; rfl⟩
    · right; exact ⟨N - 1, by omega, by congr 1; omega⟩
  case round =>
    obtain ⟨k, hk, hcase, hd⟩ := hrel
    rcases hcase with ⟨rfl, rfl⟩ | ⟨j, rfl, rfl⟩
    · obtain rfl := HC.out.2.1 (by simpa using hd)
      clear hd
      go_wp2_with fail
      go_ret
      exact ⟨rfl, rfl⟩
    · have l1 := HL1.out j
      have l2 := HL2.out j
      have hx := HD1.out j
      have hy := HD2.out j
      have bx : la[j]?.getD 0 < LB := by rw [hx]; exact Nat.mod_lt _ LB_pos
      have by' : lb[j]?.getD 0 < LB := by rw [hy]; exact Nat.mod_lt _ LB_pos
      rw [LB_eq] at bx by'
      generalize la[j]?.getD 0 = x at *
      generalize lb[j]?.getD 0 = y at *
      have L1 := Lib.hid l1
      have L2 := Lib.hid l2
      have j0 : (0 : Int) ≤ (j : Int) := Int.natCast_nonneg _
      rcases Nat.lt_trichotomy x y with h | h | h
      · obtain rfl := HC.out.1 (dig_less hd (by omega))
        have t1 : decide (x < y) = true := decide_eq_true (by omega)
        clear hd hx hy l1 l2 h
        go_wp2_with fail
        refine (L1.out _ rfl).mono ?_
        rintro e w2 ⟨he, hw⟩
        subst he
        subst hw
        go_wp2_with fail
        refine (L2.out _ rfl).mono ?_
        rintro e w2 ⟨he, hw⟩
        subst he
        subst hw
        go_wp2_with fail
        go_ret
        exact ⟨rfl, rfl⟩
      · have hE := Lib.hid (dig_same hd (by omega))
        subst h
        clear hd hx hy l1 l2
        go_wp2_with fail
        refine (L1.out _ rfl).mono ?_
        rintro e w2 ⟨he, hw⟩
        subst he
        subst hw
        go_wp2_with fail
        refine (L2.out _ rfl).mono ?_
        rintro e w2 ⟨he, hw⟩
        subst he
        subst hw
        go_wp2_with fail
        refine (L1.out _ rfl).mono ?_
        rintro e w2 ⟨he, hw⟩
        subst he
        subst hw
        go_wp2_with fail
        refine (L2.out _ rfl).mono ?_
        rintro e w2 ⟨he, hw⟩
        subst he
        subst hw
        go_wp2_with fail
        go_round
        case rel =>
          refine ⟨j, by omega, ?_, hE.out⟩
          rcases Nat.eq_zero_or_pos j with h | h
          · left; exact ⟨h, by rw [h]; rfl⟩
          · right; exact ⟨j - 1, by omega, by congr 1; omega⟩
        case measure => simp [intOf]
      · obtain rfl := HC.out.2.2 (dig_less hd.symm (by omega))
        have t1 : decide (x < y) = false := decide_eq_false (by omega)
        have t2 : decide (y < x) = true := decide_eq_true (by omega)
        clear hd hx hy l1 l2 h
        go_wp2_with fail
        refine (L1.out _ rfl).mono ?_
        rintro e w2 ⟨he, hw⟩
        subst he
        subst hw
        go_wp2_with fail
        refine (L2.out _ rfl).mono ?_
        rintro e w2 ⟨he, hw⟩
        subst he
        subst hw
        go_wp2_with fail
        refine (L1.out _ rfl).mono ?_
        rintro e w2 ⟨he, hw⟩
        subst he
        subst hw
        go_wp2_with fail
        refine (L2.out _ rfl).mono ?_
        rintro e w2 ⟨he, hw⟩
        subst he
        subst hw
        go_wp2_with fail
        go_ret
        exact ⟨rfl, rfl⟩
end Go.Proofs.YtlababdfdjjjaaaGreatDoor
namespace Go.Proofs.YtlababdfdjjjaaaGreatDoor
open Go.RowKit

theorem mod_step (m k : Nat) : m % LB ^ (k + 1) = m % LB ^ k + LB ^ k * (m / LB ^ k % LB) := Nat.mod_pow_succ
/-- A digit of a sum. -/
theorem plus_step {m n k cy V : Nat} (h : V + LB ^ k * cy = m % LB ^ k + n % LB ^ k) {x y s : Nat} (hx : x = m / LB ^ k % LB) (hy : y = n / LB ^ k % LB) (hs : s = x + y + cy) :
    V + LB ^ k * (s % LB) + LB ^ (k + 1) * (s / LB) = m % LB ^ (k + 1) + n % LB ^ (k + 1) := by
  rw [mod_step, mod_step, ← hx, ← hy, Nat.pow_succ]
  have e := Nat.div_add_mod s LB
  have e1 : LB ^ k * LB * (s / LB) + LB ^ k * (s % LB) = LB ^ k * s := by rw [Nat.mul_assoc, ← Nat.mul_add, e]
  have e2 : LB ^ k * s = LB ^ k * x + LB ^ k * y + LB ^ k * cy := by rw [hs, Nat.mul_add, Nat.mul_add]
  generalize LB ^ k * LB * (s / LB) = p1 at *
  generalize LB ^ k * (s % LB) = p2 at *
  generalize LB ^ k * s = p3 at *
  generalize LB ^ k * x = p4 at *
  generalize LB ^ k * y = p5 at *
  generalize LB ^ k * cy = p6 at *
  omega
theorem plus_end {m n N cy V : Nat} (hm : m < LB ^ N) (hn : n < LB ^ N) (h : V + LB ^ (N + 1) * cy = m % LB ^ (N + 1) + n % LB ^ (N + 1)) : V = m + n := by
  have hb : LB ^ N * 2 ≤ LB ^ (N + 1) := by rw [Nat.pow_succ]; exact Nat.mul_le_mul_left _ LB_two
  rw [Nat.mod_eq_of_lt (by omega), Nat.mod_eq_of_lt (by omega)] at h
  rcases Nat.eq_zero_or_pos cy with h0 | h0
  · rw [h0, Nat.mul_zero] at h; omega
  · have : LB ^ (N + 1) * 1 ≤ LB ^ (N + 1) * cy := Nat.mul_le_mul_left _ h0
    omega
theorem news_one (w : World) (d : Nat) : ∀ j u, ([u32 d] : List Value)[j]? = some u → (w.alloc (.cells #[.int .u32 (d : Int)] 64)).cell? ((⟨w.heap.size, 0, none⟩ : Addr).add j) = some u := by
  intro j u h
  match j, h with
  | 0, h =>
    simp at h
    subst h
    rw [add_eq]
    simp [u32]

/-- A limb is appended to a row of the call's own. -/
theorem append_limb {ops : Array Oper} {rest : List Oper} {o : Oper} {a : Act} {Q : Exit → Act → World → Prop} {w wr : World} (hgd : o.guard = none) (s x : Operand)
    (ho : o.op = .call { callee := .builtin .append, args := #[s, x], argTypes := #[24, 24] }) {v : Value} {L : List Nat} {d k : Nat} (hs : a.eval s = v) (hx : a.eval x = .slice (some ⟨wr.heap.size, 0, none⟩) 1 1)
    (hown : wr.ownsRow w.heap.size 64 1 v k (L.map u32)) (hbl : Below w.heap.size w wr) (hL : k ≤ 1000000000)
    (h : ∀ v' w', w'.ownsRow w.heap.size 64 1 v' (k + 1) ((L ++ [d]).map u32) → Below w.heap.size w w' → wpList Tryz.prog ops Q rest (a.put o.dst v') w') :
    wpList Tryz.prog ops Q (o :: rest) a (wr.alloc (.cells #[.int .u32 (d : Int)] 64)) := by
  obtain ⟨i0, hi0, hz0, hz1, hz2⟩ := info_parts Tryz.infoU
  have hb : Below w.heap.size w (wr.alloc (.cells #[.int .u32 (d : Int)] 64)) := hbl.alloc hbl.size _
  refine wpList_append_own _ hgd s x 24 ho w.heap.size 64 i0 (.int .u32 0) 1 4 Tryz.underlying24 hi0 hz0 hz1 hz2 rfl (by decide) v k (L.map u32) hs (hown.alloc _) ⟨wr.heap.size, 0, none⟩ 1 1 [u32 d] hx rfl (news_one wr d) (one_u32 [d]) (by unfold maxLen; omega) (by omega) hb.size ?_
  intro v' w' h2 h3 _
  exact h v' w' (by rw [List.map_append]; exact h2) (rbelow_grown hb (hown.alloc _) h3)

/-- The rows that a loop appends to. -/
def PlRel (w : World) (m n N : Nat) (o c i : Value) (wr : World) : Prop :=
  ∃ (k cy : Nat) (L : List Nat), k ≤ N + 1 ∧ i = .int .i64 (k : Int) ∧ c = .int .u64 (cy : Int) ∧ cy ≤ 1 ∧ L.length = k ∧ okL L ∧ wr.ownsRow w.heap.size 64 1 o k (L.map u32) ∧ val L + LB ^ k * cy = m % LB ^ k + n % LB ^ k ∧ Below w.heap.size w wr

set_option maxRecDepth 100000 in
set_option maxHeartbeats 1000000 in
theorem rplus_any (va vb : Value) (la lb : List Nat) (w : World) (ha : Lim w w.heap.size va la) (hb : Lim w w.heap.size vb lb) (hla : la.length ≤ 100000000) (hlb : lb.length ≤ 100000000) :
    Calls Tryz.prog 86 #[va, vb] w (RNum w (val la + val lb)) := by
  obtain ⟨A, capa, rfl, hcapa⟩ := ha.form
  obtain ⟨A', capb, rfl, hcapb⟩ := hb.form
  have L1 := fun k w' (h : Below w.heap.size w w') => rlimb_any (.slice A la.length capa) la k w.heap.size w' (ha.below h)
  have L2 := fun k w' (h : Below w.heap.size w w') => rlimb_any (.slice A' lb.length capb) lb k w.heap.size w' (hb.below h)
  have D1 := fun k => limb_val ha.2 k
  have D2 := fun k => limb_val hb.2 k
  obtain ⟨N, hN⟩ : ∃ N : Nat, max (la.length : Int) (lb.length : Int) = (N : Int) := ⟨max la.length lb.length, by omega⟩
  have hma : val la < LB ^ N := Nat.lt_of_lt_of_le (val_lt ha.2) (Nat.pow_le_pow_right LB_pos (by omega))
  have hmb : val lb < LB ^ N := Nat.lt_of_lt_of_le (val_lt hb.2) (Nat.pow_le_pow_right LB_pos (by omega))
  have hN1 : N ≤ 100000000 := by omega
  have hN0 : (0 : Int) ≤ (N : Int) := Int.natCast_nonneg _
  have HL1 := Lib.hid L1
  have HL2 := Lib.hid L2
  have HD1 := Lib.hid D1
  have HD2 := Lib.hid D2
  have HMA := Lib.hid hma
  have HMB := Lib.hid hmb
  clear ha hb L1 L2 D1 D2 hcapa hcapb hma hmb hla hlb
  generalize val la = m at *
  generalize val lb = n at *
  go_enter Tryz.func86, Tryz.ntmps86
  go_wp2_with fail
  go_loopw [5, 6, 7] (fun o c i wr => PlRel w m n N o c i wr) (fun _ _ i _ => N + 1 - (intOf i).toNat)
  case atStart => exact ⟨0, 0, [], by omega, rfl, rfl, by omega, rfl, okL_nil, World.ownsRow_nil _ _ _ _, by simp [val, Nat.mod_one], Below.refl _ _⟩
  case round =>
    obtain ⟨k, cy, L, hk, rfl, rfl, hcy, hL, hok, hown, hv, hbl⟩ := hrel
    have HV := Lib.hid hv
    have HOK := Lib.hid hok
    have HL := Lib.hid hL
    clear hv hok hL
    have k0 : (0 : Int) ≤ (k : Int) := Int.natCast_nonneg _
    by_cases hlt : k < N + 1
    · have t1 : (k : Int) < (N : Int) + 1 := by omega
      have hx := HD1.out k
      have hy := HD2.out k
      have l1 := HL1.out k wr hbl
      have l2 := HL2.out k wr hbl
      have bx : la[k]?.getD 0 < LB := by rw [hx]; exact Nat.mod_lt _ LB_pos
      have by' : lb[k]?.getD 0 < LB := by rw [hy]; exact Nat.mod_lt _ LB_pos
      rw [LB_eq] at bx by'
      generalize la[k]?.getD 0 = x at *
      generalize lb[k]?.getD 0 = y at *
      obtain ⟨s, hs⟩ : ∃ s, s = x + y + cy := ⟨_, rfl⟩
      have hst := plus_step HV.out hx hy hs
      have hs1 : s / LB ≤ 1 := by rw [LB_eq]; omega
      obtain ⟨d, hd⟩ : ∃ d, d = s % LB := ⟨_, rfl⟩
      obtain ⟨c', hc'⟩ : ∃ c', c' = s / LB := ⟨_, rfl⟩
      rw [← hd, ← hc'] at hst
      rw [← hc'] at hs1
      have hdlt : d < LB := by rw [hd]; exact Nat.mod_lt _ LB_pos
      have e1 : ((x : Int) + (y : Int) + (cy : Int)) % 4294967296 = (d : Int) := by rw [LB_eq] at hd; omega
      have e2 : ((x : Int) + (y : Int) + (cy : Int)) / 4294967296 = (c' : Int) := by rw [LB_eq] at hc'; omega
      have E1 := Lib.hid e1
      have E2 := Lib.hid e2
      have HST := Lib.hid hst
      have HDL := Lib.hid hdlt
      have HS1 := Lib.hid hs1
      have L1 := Lib.hid l1
      have L2 := Lib.hid l2
      clear hx hy hs hd hc' hst hs1 hdlt e1 e2 l1 l2
      go_wp2_with fail
      refine L1.out.mono ?_
      rintro e w2 ⟨he, hw⟩
      subst he
      subst hw
      go_wp2_with fail
      refine L2.out.mono ?_
      rintro e w2 ⟨he, hw⟩
      subst he
      subst hw
      go_wp2_with (rw [E1.out]; at_builtin; refine append_limb rfl (.tmp 28) (.tmp 32) rfl (L := L) (d := d) (w := w) rfl rfl hown hbl (by omega) ?_; intro v' w3 hown3 hbl3)
      go_roundw
      case rel => exact ⟨k + 1, c', L ++ [d], by omega, by go_num, by rw [E2.out], HS1.out, by rw [List.length_append, HL.out]; rfl, okL_append.2 ⟨HOK.out, okL_cons.2 ⟨HDL.out, okL_nil⟩⟩, hown3, by rw [val_snoc, HL.out]; exact HST.out, hbl3⟩
      case measure => simp [intOf]; omega
    · obtain rfl : k = N + 1 := by omega
      have hfin := plus_end HMA.out HMB.out HV.out
      have HO := Lib.hid (show Lim wr wr.heap.size u5 L from ⟨SlC.of_own hown, HOK.out⟩)
      have htr := rtrim_any _ _ _ HO.out (by have := HL.out; omega)
      rw [hfin] at htr
      have HT := Lib.hid htr
      clear htr hfin
      go_wp2_with fail
      refine HT.out.mono ?_
      rintro e w2 ⟨v, he, hnum, hb2, hf⟩
      subst he
      go_wp2_with fail
      go_ret
      exact ⟨_, rfl, hnum, hbl.trans (hb2.mono hbl.size), hf.mono hbl.size⟩
end Go.Proofs.YtlababdfdjjjaaaGreatDoor
namespace Go.Proofs.YtlababdfdjjjaaaGreatDoor
open Go.RowKit

/-- A digit of a difference. -/
theorem minus_step {m n k cy V : Nat} (h : V + n % LB ^ k = m % LB ^ k + LB ^ k * cy) {x y d c' : Nat} (hx : x = m / LB ^ k % LB) (hy : y = n / LB ^ k % LB) (hs : cy + d + y = x + LB * c') :
    V + LB ^ k * d + n % LB ^ (k + 1) = m % LB ^ (k + 1) + LB ^ (k + 1) * c' := by
  rw [mod_step, mod_step, ← hx, ← hy, Nat.pow_succ]
  have e1 : LB ^ k * (cy + d + y) = LB ^ k * (x + LB * c') := by rw [hs]
  rw [Nat.mul_add, Nat.mul_add, Nat.mul_add, ← Nat.mul_assoc] at e1
  omega
theorem minus_end {m n N cy V : Nat} (hV : V < LB ^ N) (hm : m < LB ^ N) (hn : n ≤ m) (h : V + n % LB ^ N = m % LB ^ N + LB ^ N * cy) : V = m - n := by
  rw [Nat.mod_eq_of_lt (by omega), Nat.mod_eq_of_lt hm] at h
  rcases Nat.eq_zero_or_pos cy with h0 | h0
  · rw [h0, Nat.mul_zero] at h; omega
  · have : LB ^ N * 1 ≤ LB ^ N * cy := Nat.mul_le_mul_left _ h0
    omega
def MiRel (w : World) (m n N : Nat) (o c i : Value) (wr : World) : Prop :=
  ∃ (k cy : Nat) (L : List Nat), k ≤ N ∧ i = .int .i64 (k : Int) ∧ c = .int .u64 (cy : Int) ∧ cy ≤ 1 ∧ L.length = k ∧ okL L ∧ wr.ownsRow w.heap.size 64 1 o k (L.map u32) ∧ val L + n % LB ^ k = m % LB ^ k + LB ^ k * cy ∧ Below w.heap.size w wr

set_option maxRecDepth 100000 in
set_option maxHeartbeats 1000000 in
theorem rminus_any (va vb : Value) (la lb : List Nat) (w : World) (ha : Lim w w.heap.size va la) (hb : Lim w w.heap.size vb lb) (hla : la.length ≤ 100000000) (hle : val lb ≤ val la) :
    Calls Tryz.prog 97 #[va, vb] w (RNum w (val la - val lb)) := by
  obtain ⟨A, capa, rfl, hcapa⟩ := ha.form
  obtain ⟨A', capb, rfl, hcapb⟩ := hb.form
  have L1 := fun k w' (h : Below w.heap.size w w') => rlimb_any (.slice A la.length capa) la k w.heap.size w' (ha.below h)
  have L2 := fun k w' (h : Below w.heap.size w w') => rlimb_any (.slice A' lb.length capb) lb k w.heap.size w' (hb.below h)
  have D1 := fun k => limb_val ha.2 k
  have D2 := fun k => limb_val hb.2 k
  have hma : val la < LB ^ la.length := val_lt ha.2
  have HL1 := Lib.hid L1
  have HL2 := Lib.hid L2
  have HD1 := Lib.hid D1
  have HD2 := Lib.hid D2
  have HMA := Lib.hid hma
  have HLE := Lib.hid hle
  clear ha hb L1 L2 D1 D2 hcapa hcapb hma hle
  generalize val la = m at *
  generalize val lb = n at *
  go_enter Tryz.func97, Tryz.ntmps97
  go_wp2_with fail
  go_loopw [5, 6, 7] (fun o c i wr => MiRel w m n la.length o c i wr) (fun _ _ i _ => la.length - (intOf i).toNat)
  case atStart => exact ⟨0, 0, [], by omega, rfl, rfl, by omega, rfl, okL_nil, World.ownsRow_nil _ _ _ _, by simp [val, Nat.mod_one], Below.refl _ _⟩
  case round =>
    obtain ⟨k, cy, L, hk, rfl, rfl, hcy, hL, hok, hown, hv, hbl⟩ := hrel
    have HV := Lib.hid hv
    have HOK := Lib.hid hok
    have HL := Lib.hid hL
    clear hv hok hL
    have k0 : (0 : Int) ≤ (k : Int) := Int.natCast_nonneg _
    by_cases hlt : k < la.length
    · have t1 : (k : Int) < (la.length : Int) := by omega
      have hx := HD1.out k
      have hy := HD2.out k
      have l1 := HL1.out k wr hbl
      have l2 := HL2.out k wr hbl
      have bx : la[k]?.getD 0 < LB := by rw [hx]; exact Nat.mod_lt _ LB_pos
      have by' : lb[k]?.getD 0 < LB := by rw [hy]; exact Nat.mod_lt _ LB_pos
      rw [LB_eq] at bx by'
      generalize la[k]?.getD 0 = x at *
      generalize lb[k]?.getD 0 = y at *
      obtain ⟨d, q, c', e1, e2, e3, e4, e5, e6⟩ : ∃ d q c' : Nat, (4294967296 + (x : Int) - (y : Int) - (cy : Int)) % 4294967296 = (d : Int) ∧ (4294967296 + (x : Int) - (y : Int) - (cy : Int)) / 4294967296 = (q : Int) ∧ (1 : Int) - (q : Int) = (c' : Int) ∧ d < 4294967296 ∧ c' ≤ 1 ∧ cy + d + y = x + 4294967296 * c' :=
        ⟨((4294967296 + (x : Int) - (y : Int) - (cy : Int)) % 4294967296).toNat, ((4294967296 + (x : Int) - (y : Int) - (cy : Int)) / 4294967296).toNat, (1 - (4294967296 + (x : Int) - (y : Int) - (cy : Int)) / 4294967296).toNat, by omega, by omega, by omega, by omega, by omega, by omega⟩
      have hst := minus_step HV.out hx hy (by rw [LB_eq]; exact e6)
      have E1 := Lib.hid e1
      have E2 := Lib.hid e2
      have E3 := Lib.hid e3
      have HST := Lib.hid hst
      have HDL := Lib.hid e4
      have HS1 := Lib.hid e5
      have L1 := Lib.hid l1
      have L2 := Lib.hid l2
      clear hx hy hst e1 e2 e3 e4 e5 e6 l1 l2
      go_wp2_with fail
      refine L1.out.mono ?_
      rintro e w2 ⟨he, hw⟩
      subst he
      subst hw
      go_wp2_with fail
      refine L2.out.mono ?_
      rintro e w2 ⟨he, hw⟩
      subst he
      subst hw
      go_wp2_with (rw [E1.out]; at_builtin; refine append_limb rfl (.tmp 25) (.tmp 29) rfl (L := L) (d := d) (w := w) rfl rfl hown hbl (by omega) ?_; intro v' w3 hown3 hbl3)
      go_roundw
      case rel => exact ⟨k + 1, c', L ++ [d], by omega, by go_num, by rw [E2.out, E3.out], HS1.out, by rw [List.length_append, HL.out]; rfl, okL_append.2 ⟨HOK.out, okL_cons.2 ⟨by rw [LB_eq]; exact HDL.out, okL_nil⟩⟩, hown3, by rw [val_snoc, HL.out]; exact HST.out, hbl3⟩
      case measure => simp [intOf]; omega
    · obtain rfl : k = la.length := by omega
      have hfin := minus_end (by rw [← HL.out]; exact val_lt HOK.out) HMA.out HLE.out HV.out
      have HO := Lib.hid (show Lim wr wr.heap.size u5 L from ⟨SlC.of_own hown, HOK.out⟩)
      have htr := rtrim_any _ _ _ HO.out (by have := HL.out; omega)
      rw [hfin] at htr
      have HT := Lib.hid htr
      clear htr hfin
      go_wp2_with fail
      refine HT.out.mono ?_
      rintro e w2 ⟨v, he, hnum, hb2, hf⟩
      subst he
      go_wp2_with fail
      go_ret
      exact ⟨_, rfl, hnum, hbl.trans (hb2.mono hbl.size), hf.mono hbl.size⟩
end Go.Proofs.YtlababdfdjjjaaaGreatDoor
namespace Go.Proofs.YtlababdfdjjjaaaGreatDoor
open Go.RowKit

theorem val_set : ∀ {L : List Nat} {j o : Nat} (d : Nat), L[j]? = some o → val (L.set j d) + LB ^ j * o = val L + LB ^ j * d
  | [], j, o, d, h => by simp at h
  | x :: L, 0, o, d, h => by
    simp at h
    subst h
    simp only [List.set_cons_zero, val, Nat.pow_zero, Nat.one_mul]
    omega
  | x :: L, j + 1, o, d, h => by
    have ih := val_set d (show L[j]? = some o by simpa using h)
    simp only [List.set_cons_succ, val, Nat.pow_succ]
    rw [Nat.mul_comm (LB ^ j) LB, Nat.mul_assoc, Nat.mul_assoc]
    have e : LB * (val (L.set j d) + LB ^ j * o) = LB * (val L + LB ^ j * d) := by rw [ih]
    rw [Nat.mul_add, Nat.mul_add] at e
    omega
theorem okL_set {L : List Nat} {j d : Nat} (h : okL L) (hd : d < LB) : okL (L.set j d) := by
  intro x hx
  rcases List.mem_or_eq_of_mem_set hx with h1 | h1
  · exact h x h1
  · rw [h1]; exact hd
/-- A step of the inner loop. -/
theorem times_step {V W i k o x y cy d c' P n Kn : Nat} (h : V + LB ^ (i + k) * cy = W + x * LB ^ i * (n % LB ^ k)) (hy : y = n / LB ^ k % LB) (hs : o + x * y + cy = d + LB * c') (hV : Kn + LB ^ (i + k) * o = V + LB ^ (i + k) * d) (_ : P = 0) :
    Kn + LB ^ (i + (k + 1)) * c' = W + x * LB ^ i * (n % LB ^ (k + 1)) := by
  rw [mod_step, ← hy, ← Nat.add_assoc, Nat.pow_succ]
  have e1 : LB ^ (i + k) * (o + x * y + cy) = LB ^ (i + k) * (d + LB * c') := by rw [hs]
  have e2 : x * LB ^ i * (LB ^ k * y) = LB ^ (i + k) * (x * y) := by rw [Nat.pow_add]; grind
  rw [Nat.mul_add, Nat.mul_add, Nat.mul_add, ← Nat.mul_assoc _ LB] at e1
  rw [Nat.mul_add (x * LB ^ i), e2]
  generalize x * LB ^ i * (n % LB ^ k) = q1 at *
  generalize LB ^ (i + k) * (x * y) = q2 at *
  generalize LB ^ (i + k) * LB * c' = q3 at *
  omega
theorem times_round {m n i lb cy V x : Nat} (hn : n < LB ^ lb) (hx : x = m / LB ^ i % LB) (h : V + LB ^ (i + (lb + 1)) * cy = m % LB ^ i * n + x * LB ^ i * (n % LB ^ (lb + 1))) : V = m % LB ^ (i + 1) * n := by
  have hp : LB ^ lb ≤ LB ^ (lb + 1) := Nat.pow_le_pow_right LB_pos (by omega)
  rw [Nat.mod_eq_of_lt (Nat.lt_of_lt_of_le hn hp)] at h
  have e : m % LB ^ (i + 1) * n = m % LB ^ i * n + x * LB ^ i * n := by rw [mod_step, ← hx, Nat.add_mul, Nat.mul_comm (LB ^ i) x]
  rw [← e] at h
  have hlt : m % LB ^ (i + 1) * n < LB ^ (i + (lb + 1)) := by
    have h1 : m % LB ^ (i + 1) < LB ^ (i + 1) := Nat.mod_lt _ (pow_pos' _)
    have h2 : LB ^ (i + (lb + 1)) = LB ^ (i + 1) * LB ^ lb := by rw [← Nat.pow_add]; congr 1; omega
    rw [h2]
    exact Nat.mul_lt_mul_of_lt_of_le h1 (Nat.le_of_lt hn) (pow_pos' _)
  rcases Nat.eq_zero_or_pos cy with h0 | h0
  · rw [h0, Nat.mul_zero] at h; omega
  · have : LB ^ (i + (lb + 1)) * 1 ≤ LB ^ (i + (lb + 1)) * cy := Nat.mul_le_mul_left _ h0
    omega
def TmRel (w : World) (m n N M : Nat) (iv : Value) (wr : World) : Prop :=
  ∃ (i : Nat) (L : List Nat), i ≤ M ∧ iv = .int .i64 (i : Int) ∧ L.length = N ∧ okL L ∧ Row wr w.heap.size L ∧ val L = m % LB ^ i * n ∧ Below w.heap.size w wr
def TiRel (w : World) (W x i n N M : Nat) (c kv : Value) (wr : World) : Prop :=
  ∃ (k cy : Nat) (L : List Nat), k ≤ M ∧ kv = .int .i64 (k : Int) ∧ c = .int .u64 (cy : Int) ∧ cy < 4294967296 ∧ L.length = N ∧ okL L ∧ Row wr w.heap.size L ∧ val L + LB ^ (i + k) * cy = W + x * LB ^ i * (n % LB ^ k) ∧ Below w.heap.size w wr

def limbV (l : List Nat) (k : Nat) : Int := ((l[k]?.getD 0 : Nat) : Int)
theorem rlimb_q (w0 : World) (v : Value) (l : List Nat) (k : Nat) (h : Lim w0 w0.heap.size v l) (wq : World) (hb : Below w0.heap.size w0 wq) :
    Calls Tryz.prog 74 #[v, .int .i64 (k : Int)] wq fun e w' => e = .returned (.int .u64 (limbV l k)) ∧ w' = wq :=
  (rlimb_any v l k w0.heap.size wq (h.below hb)).mono fun _ _ h => ⟨h.1, h.2.symm⟩

set_option maxRecDepth 100000 in
set_option maxHeartbeats 400000 in
theorem rtimes_any (va vb : Value) (la lb : List Nat) (w : World) (ha : Lim w w.heap.size va la) (hb : Lim w w.heap.size vb lb) (hla : la.length ≤ 100000000) (hlb : lb.length ≤ 100000000) :
    Calls Tryz.prog 87 #[va, vb] w (RNum w (val la * val lb)) := by
  obtain ⟨A, capa, rfl, hcapa⟩ := ha.form
  obtain ⟨A', capb, rfl, hcapb⟩ := hb.form
  have D1 := fun k => limb_val ha.2 k
  have D2 := fun k => limb_val hb.2 k
  have hma : val la < LB ^ la.length := val_lt ha.2
  have hmb : val lb < LB ^ lb.length := val_lt hb.2
  have HA := Lib.hid ha
  have HB' := Lib.hid hb
  have HD1 := Lib.hid D1
  have HD2 := Lib.hid D2
  have HMA := Lib.hid hma
  have HMB := Lib.hid hmb
  obtain ⟨N, hN⟩ : ∃ N, N = la.length + lb.length + 1 := ⟨_, rfl⟩
  have hmk := fun W => mkI ((la.length : Int) + (lb.length : Int) + 1) N (by omega) (by omega) W
  have hb0 : Below w.heap.size w (w.alloc (.cells (zeros N).toArray 64)) := (Below.refl _ _).alloc (Nat.le_refl _) _
  have hr0 := Row.new w N
  have HN := Lib.hid hN
  have HB0 := Lib.hid hb0
  have HR0 := Lib.hid hr0
  clear ha hb D1 D2 hcapa hcapb hma hmb hb0 hr0 hN
  generalize val la = m at *
  generalize val lb = n at *
  go_enter Tryz.func87, Tryz.ntmps87
  go_wp2_with fail
  clear hmk
  go_loopw [6] (fun iv wr => TmRel w m n N la.length iv wr) (fun i _ => la.length - (intOf i).toNat)
  case atStart => exact ⟨0, _, by omega, rfl, by simp, okL_zero _, HR0.out, by rw [val_zero, Nat.pow_zero, Nat.mod_one, Nat.zero_mul], HB0.out⟩
  case round =>
    clear HB0 HR0
    obtain ⟨i, L, hi, rfl, hL, hok, hrow, hv, hbl⟩ := hrel
    have i0 : (0 : Int) ≤ (i : Int) := Int.natCast_nonneg _
    have HV := Lib.hid hv
    have HOK := Lib.hid hok
    have HL := Lib.hid hL
    have HR := Lib.hid hrow
    have HB := Lib.hid hbl
    clear hv hok hL hrow hbl
    by_cases hlt : i < la.length
    · have t1 : (i : Int) < (la.length : Int) := by omega
      have hx := HD1.out i
      have bx : la[i]?.getD 0 < LB := by rw [hx]; exact Nat.mod_lt _ LB_pos
      have l1 : limbV la i = ((la[i]?.getD 0 : Nat) : Int) := rfl
      rw [LB_eq] at bx
      generalize la[i]?.getD 0 = x at *
      have HX := Lib.hid hx
      clear hx
      go_wp2_with fail
      go_loopw [7, 8] (fun c kv wr => TiRel w (m % LB ^ i * n) x i n N (lb.length + 1) c kv wr) (fun _ k _ => lb.length + 1 - (intOf k).toNat)
      case atStart => exact ⟨0, 0, L, by omega, rfl, rfl, by omega, HL.out, HOK.out, HR.out, by rw [HV.out, Nat.pow_zero, Nat.mod_one, Nat.mul_zero, Nat.mul_zero], HB.out⟩
      case round =>
        obtain ⟨k, cy, L', hk, rfl, rfl, hcy, hL, hok, hrow, hv, hbl⟩ := hrel
        have k0 : (0 : Int) ≤ (k : Int) := Int.natCast_nonneg _
        by_cases hlt2 : k < lb.length + 1
        · have t2 : (k : Int) < (lb.length : Int) + 1 := by omega
          obtain ⟨j, hj⟩ : ∃ j, j = i + k := ⟨_, rfl⟩
          have hjN : j < N := by have := HN.out; omega
          obtain ⟨o, ho⟩ : ∃ o, L'[j]? = some o := ⟨L'[j]'(by omega), List.getElem?_eq_getElem (by omega)⟩
          have bo := Lim.lt hok ho
          have c0 := hrow.cell ho
          have f0 := hrow.frozen j
          have hy := HD2.out k
          have by' : lb[k]?.getD 0 < LB := by rw [hy]; exact Nat.mod_lt _ LB_pos
          have l2 : limbV lb k = ((lb[k]?.getD 0 : Nat) : Int) := rfl
          rw [LB_eq] at by'
          generalize lb[k]?.getD 0 = y at *
          have hp : x * y ≤ 4294967295 * 4294967295 := Nat.mul_le_mul (by omega) (by omega)
          obtain ⟨p, hpp⟩ : ∃ p, p = x * y := ⟨_, rfl⟩
          obtain ⟨s, hs⟩ : ∃ s, s = o + p + cy := ⟨_, rfl⟩
          obtain ⟨d, hd⟩ : ∃ d, d = s % 4294967296 := ⟨_, rfl⟩
          obtain ⟨c', hc⟩ : ∃ c', c' = s / 4294967296 := ⟨_, rfl⟩
          rw [← hpp] at hp
          have q1 : (x : Int) * (y : Int) = (p : Int) := by rw [hpp, Int.natCast_mul]
          have q2 : (o : Int) + (p : Int) + (cy : Int) = (s : Int) := by omega
          have q3 : (i : Int) + (k : Int) = (j : Int) := by omega
          have w1 : IntKind.u64.wrap (p : Int) = (p : Int) := IntWalk.u64_in _ (by omega)
          have w2 : IntKind.u64.wrap ((o : Int) + (p : Int)) = (o : Int) + (p : Int) := IntWalk.u64_in _ (by omega)
          have w3 : IntKind.u64.wrap (s : Int) = (s : Int) := IntWalk.u64_in _ (by omega)
          have w4 : IntKind.i64.wrap (j : Int) = (j : Int) := IntWalk.i64_in _ (by have := HN.out; omega)
          have w5 : IntKind.u64.wrap (o : Int) = (o : Int) := IntWalk.u64_in _ (by omega)
          have j1 : (0 : Int) ≤ (j : Int) := Int.natCast_nonneg _
          have j2 : (j : Int) < (N : Int) := by omega
          have e1 : (s : Int) % 4294967296 = (d : Int) := by omega
          have e2 : (s : Int) / 4294967296 = (c' : Int) := by omega
          have hdl : d < 4294967296 := by omega
          have hcl : c' < 4294967296 := by omega
          have hst := times_step (d := d) (c' := c') (P := 0) (Kn := val (L'.set j d)) (o := o) (y := y) (cy := cy) hv hy (by rw [LB_eq, ← hpp]; omega) (by rw [← hj]; exact val_set d ho) rfl
          have hrow2 := (hrow.drewN 0).set j d
          have HST := Lib.hid hst
          have HD := Lib.hid hdl
          have HC := Lib.hid hcl
          have E1 := Lib.hid e1
          have E2 := Lib.hid e2
          have HRO := Lib.hid hrow
          have HOK2 := Lib.hid hok
          have HL2' := Lib.hid hL
          have HBL := Lib.hid hbl
          clear hv hy hp hpp hs hd hc hst hrow2 e1 e2 hrow hok hL ho hj
          go_wp2_with fail
          have ha := HA.out
          have hb := HB'.out
          go_quiet (exact Calls.quiet_of_same (rlimb_q w _ _ _ (by assumption) _ (HBL.out.trans ((below_drewN wr _).mono HBL.out.size))))
          clear ha hb
          go_wp2_with fail
          go_roundw
          case rel => exact ⟨k + 1, c', L'.set j d, by omega, by go_num, by rw [E2.out, IntWalk.u64_in _ (by have := HC.out; omega)], HC.out, by rw [List.length_set]; exact HL2'.out, okL_set HOK2.out (by rw [LB_eq]; exact HD.out), by rw [E1.out]; exact (HRO.out.drewN nq).set j d, HST.out, by rw [E1.out]; exact (HBL.out.trans ((below_drewN wr nq).mono HBL.out.size)).setCell (p := ⟨w.heap.size, j, none⟩) (Nat.le_refl _) _⟩
          case measure => simp [intOf]; omega
        · obtain rfl : k = lb.length + 1 := by omega
          have hfin := times_round HMB.out HX.out hv
          have HF := Lib.hid hfin
          have HRO := Lib.hid hrow
          have HOK2 := Lib.hid hok
          have HL2' := Lib.hid hL
          have HBL := Lib.hid hbl
          clear hfin hrow hok hL hbl hv
          go_wp2_with fail
          go_roundw
          case rel => exact ⟨i + 1, L', by omega, by go_num, HL2'.out, HOK2.out, HRO.out, HF.out, HBL.out⟩
          case measure => simp [intOf]; omega
    · obtain rfl : i = la.length := by omega
      have hfin : val L = m * n := by rw [HV.out, Nat.mod_eq_of_lt HMA.out]
      have hlim := HR.out.whole HOK.out N (by rw [HL.out]; omega)
      have htr := rtrim_any _ _ _ hlim (by rw [HL.out]; have := HN.out; omega)
      rw [hfin, HL.out] at htr
      have HT := Lib.hid htr
      clear htr hfin hlim
      go_wp2_with fail
      refine HT.out.mono ?_
      rintro e w2 ⟨v, he, hnum, hb2, hf⟩
      subst he
      go_wp2_with fail
      go_ret
      exact ⟨_, rfl, hnum, HB.out.trans (hb2.mono HB.out.size), hf.mono HB.out.size⟩
end Go.Proofs.YtlababdfdjjjaaaGreatDoor
namespace Go.Proofs.YtlababdfdjjjaaaGreatDoor
open Go.RowKit

theorem rbit_any (v : Value) (l : List Nat) (q r x : Nat) (B : Nat) (w : World) (hv : Lim w B v l) (hx : l[q]? = some x) (hr : r < 32) (hq : q ≤ 100000000) :
    Calls Tryz.prog 94 #[v, .int .i64 ((32 * q + r : Nat) : Int)] w fun e w' => e = .returned (.int .u32 ((x / 2 ^ r % 2 : Nat) : Int)) ∧ w = w' := by
  obtain ⟨A, cap, rfl, hcap⟩ := hv.form
  obtain ⟨g, o, rfl, hg, c0⟩ := hv.cell hx
  have hb := Lim.lt hv.2 hx
  have hql : q < l.length := by
    rcases Nat.lt_or_ge q l.length with h | h
    · exact h
    · rw [List.getElem?_eq_none h] at hx; cases hx
  obtain ⟨i, hi⟩ : ∃ i, 32 * q + r = i := ⟨_, rfl⟩
  rw [hi]
  have e1 : (i : Int).tdiv 32 = (q : Int) := by rw [Int.tdiv_eq_ediv_of_nonneg (Int.natCast_nonneg _)]; omega
  have e2 : (i : Int).tmod 32 = (r : Int) := by rw [Int.tmod_eq_emod_of_nonneg (Int.natCast_nonneg _)]; omega
  have q0 : (0 : Int) ≤ (q : Int) := Int.natCast_nonneg _
  have q1 : (q : Int) < (l.length : Int) := by omega
  have r0 : (0 : Int) ≤ (r : Int) := Int.natCast_nonneg _
  have hlt : x / 2 ^ r < 4294967296 := Nat.lt_of_le_of_lt (Nat.div_le_self _ _) hb
  have hfin : bits .and .u32 ((x : Int) / 2 ^ r) 1 = ((x / 2 ^ r % 2 : Nat) : Int) := by
    rw [show (x : Int) / 2 ^ r = ((x / 2 ^ r : Nat) : Int) by rw [Int.natCast_ediv, Int.natCast_pow]; rfl]
    rw [show (1 : Int) = ((1 : Nat) : Int) from rfl, u32_and_nat (x / 2 ^ r) 1 hlt (by decide), Nat.and_one_is_mod]
  have HF := Lib.hid hfin
  clear hv hx hi hfin hlt
  go_enter Tryz.func94, Tryz.ntmps94
  go_wp2_with fail
  go_ret
  exact ⟨ret_int HF.out, rfl⟩

/-! Twice a number, and a bit. -/
theorem or_bit {y c : Nat} (hc : c ≤ 1) : bits .or .u32 ((y : Int) * 2 % 4294967296) (c : Int) = ((y * 2 % 4294967296 + c : Nat) : Int) := by
  have e : (y : Int) * 2 % 4294967296 = ((y * 2 % 4294967296 : Nat) : Int) := by omega
  rw [e, u32_or_nat _ _ (by omega) (by omega)]
  congr 1
  have h2 : y * 2 % 4294967296 = 2 ^ 1 * (y * 2 % 4294967296 / 2) := by omega
  rw [h2, ← Nat.two_pow_add_eq_or_of_lt (show c < 2 ^ 1 by omega)]
theorem double_step {V m i c0 cy y d c' Vn : Nat} (h : V + LB ^ i * cy = 2 * (m % LB ^ i) + c0) (hy : y = m / LB ^ i % LB) (hs : y * 2 + cy = d + LB * c') (hV : Vn + LB ^ i * 0 = V + LB ^ i * d) :
    Vn + LB ^ (i + 1) * c' = 2 * (m % LB ^ (i + 1)) + c0 := by
  rw [mod_step, ← hy, Nat.pow_succ]
  have e1 : LB ^ i * (y * 2 + cy) = LB ^ i * (d + LB * c') := by rw [hs]
  rw [Nat.mul_add, Nat.mul_add, ← Nat.mul_assoc, ← Nat.mul_assoc] at e1
  rw [Nat.mul_zero] at hV
  rw [Nat.mul_add]
  generalize LB ^ i * y = t at *
  omega
def DbRel (w : World) (m c0 N M : Nat) (c iv : Value) (wr : World) : Prop :=
  ∃ (i cy : Nat) (L : List Nat), i ≤ M ∧ iv = .int .i64 (i : Int) ∧ c = .int .u32 (cy : Int) ∧ cy ≤ 1 ∧ L.length = N ∧ okL L ∧ (∀ j, i ≤ j → j < N → L[j]? = some 0) ∧ Row wr w.heap.size L ∧ val L + LB ^ i * cy = 2 * (m % LB ^ i) + c0 ∧ Below w.heap.size w wr

set_option maxRecDepth 100000 in
set_option maxHeartbeats 400000 in
theorem rdouble_any (va : Value) (la : List Nat) (c : Nat) (w : World) (ha : Lim w w.heap.size va la) (hla : la.length ≤ 100000000) (hc : c ≤ 1) :
    Calls Tryz.prog 131 #[va, .int .u32 (c : Int)] w (RNum w (2 * val la + c)) := by
  obtain ⟨A, capa, rfl, hcapa⟩ := ha.form
  have D1 := fun k => limb_val ha.2 k
  have hma : val la < LB ^ la.length := val_lt ha.2
  have HA := Lib.hid ha
  have HD1 := Lib.hid D1
  have HMA := Lib.hid hma
  obtain ⟨N, hN⟩ : ∃ N, N = la.length + 1 := ⟨_, rfl⟩
  have hmk := fun W => mkI ((la.length : Int) + 1) N (by omega) (by omega) W
  have HB0 := Lib.hid (show Below w.heap.size w (w.alloc (.cells (zeros N).toArray 64)) from (Below.refl _ _).alloc (Nat.le_refl _) _)
  have HR0 := Lib.hid (Row.new w N)
  have HN := Lib.hid hN
  clear ha D1 hcapa hma hN
  generalize val la = m at *
  go_enter Tryz.func131, Tryz.ntmps131
  go_wp2_with fail
  clear hmk
  go_loopw [1, 6] (fun c' iv wr => DbRel w m c N la.length c' iv wr) (fun _ i _ => la.length - (intOf i).toNat)
  case atStart => exact ⟨0, c, _, by omega, rfl, rfl, hc, by simp, okL_zero _, fun j _ hj => by rw [List.getElem?_replicate, if_pos hj], HR0.out, by rw [val_zero, Nat.pow_zero, Nat.mod_one]; omega, HB0.out⟩
  case round =>
    clear HB0 HR0
    obtain ⟨i, cy, L, hi, rfl, rfl, hcy, hL, hok, hz, hrow, hv, hbl⟩ := hrel
    have i0 : (0 : Int) ≤ (i : Int) := Int.natCast_nonneg _
    have j1 : i < N := by have := HN.out; omega
    have j2 : (i : Int) < (N : Int) := by omega
    have zi := hz i (Nat.le_refl _) j1
    have c0 := hrow.cell zi
    have f0 := hrow.frozen i
    by_cases hlt : i < la.length
    · have t1 : (i : Int) < (la.length : Int) := by omega
      obtain ⟨y, hy⟩ : ∃ y, la[i]? = some y := ⟨la[i], List.getElem?_eq_getElem hlt⟩
      have hyv := HD1.out i
      rw [hy, Option.getD_some] at hyv
      have by' := Lim.lt HA.out.2 hy
      obtain ⟨g, o, rfl, hg, d0⟩ := (HA.out.below hbl).cell hy
      have hgne : g ≠ w.heap.size := Nat.ne_of_lt hg
      obtain ⟨d, hd⟩ : ∃ d, d = y * 2 % 4294967296 + cy := ⟨_, rfl⟩
      obtain ⟨c', hc'⟩ : ∃ c', c' = y / 2147483648 := ⟨_, rfl⟩
      have e1 : bits .or .u32 ((y : Int) * 2 % 4294967296) (cy : Int) = (d : Int) := by rw [or_bit hcy, hd]
      have e2 : (y : Int) / 2147483648 = (c' : Int) := by omega
      have hdl : d < 4294967296 := by omega
      have hcl : c' ≤ 1 := by omega
      have hst := double_step (d := d) (c' := c') (Vn := val (L.set i d)) hv hyv (by rw [LB_eq]; omega) (val_set d zi)
      have HST := Lib.hid hst
      have HD := Lib.hid hdl
      have HC := Lib.hid hcl
      have E1 := Lib.hid e1
      have E2 := Lib.hid e2
      have HRO := Lib.hid (hrow.set i d)
      have HOK := Lib.hid (okL_set hok (show d < LB from hdl) (j := i))
      have HL := Lib.hid hL
      have HZ := Lib.hid hz
      have HBL := Lib.hid (hbl.setCell (p := ⟨w.heap.size, i, none⟩) (Nat.le_refl _) (.int .u32 (d : Int)))
      clear hyv hst hd hc' e1 e2 hrow hok hL hv hbl hz zi hy hdl hcl
      go_wp2_with fail
      go_roundw
      case rel => exact ⟨i + 1, c', L.set i d, by omega, by go_num, by rw [E2.out], HC.out, by rw [List.length_set]; exact HL.out, HOK.out, fun j hj hjN => by rw [List.getElem?_set_ne (by omega)]; exact HZ.out j (by omega) hjN, by rw [E1.out]; exact HRO.out, HST.out, by rw [E1.out]; exact HBL.out⟩
      case measure => simp [intOf]; omega
    · obtain rfl : i = la.length := by omega
      have hfin : val (L.set la.length cy) = 2 * m + c := by
        have := val_set cy zi
        rw [Nat.mod_eq_of_lt HMA.out] at hv
        omega
      have HRO := Lib.hid (hrow.set la.length cy)
      have hlim := HRO.out.whole (okL_set hok (show cy < LB by rw [LB_eq]; omega)) N (by rw [List.length_set, hL]; exact Nat.le_refl _)
      have htr := rtrim_any _ _ _ hlim (by rw [List.length_set, hL]; have := HN.out; omega)
      rw [hfin, List.length_set, hL] at htr
      have HT := Lib.hid htr
      have HBL := Lib.hid (hbl.setCell (p := ⟨w.heap.size, la.length, none⟩) (Nat.le_refl _) (.int .u32 (cy : Int)))
      clear htr hfin hlim hv hrow hok hbl hz zi hL
      go_wp2_with fail
      refine HT.out.mono ?_
      rintro e w2 ⟨v, he, hnum, hb2, hf⟩
      subst he
      go_wp2_with fail
      go_ret
      exact ⟨_, rfl, hnum, HBL.out.trans (hb2.mono HBL.out.size), hf.mono HBL.out.size⟩
end Go.Proofs.YtlababdfdjjjaaaGreatDoor
namespace Go.Proofs.YtlababdfdjjjaaaGreatDoor
open Go.RowKit

set_option maxRecDepth 100000 in
set_option maxHeartbeats 400000 in
theorem rsize_any (v : Value) (m : Nat) (B : Nat) (w : World) (hv : Num w B v m) (hlen : (dg m).length ≤ 10000000) :
    Calls Tryz.prog 90 #[v] w fun e w' => e = .returned (.int .i64 (bitsOf m : Int)) ∧ Drawn w w' := by
  by_cases h0 : m = 0
  · subst h0
    obtain ⟨A, cap, rfl, -⟩ := hv.form
    have e0 : dg 0 = [] := dg_zero
    rw [e0, bits_zero]
    clear hv
    go_enter Tryz.func90, Tryz.ntmps90
    go_wp2_with fail
    go_ret
    exact ⟨rfl, Drawn.refl _⟩
  · have hne : dg m ≠ [] := fun e => h0 (dg_nil.1 e)
    obtain ⟨pre, x, hpx⟩ : ∃ pre x, dg m = pre ++ [x] := ⟨(dg m).dropLast, (dg m).getLast hne, (List.dropLast_concat_getLast hne).symm⟩
    have hr := right_dg m
    have hx0 : x ≠ 0 := by
      intro e
      apply hr.2
      rw [hpx, e]; simp
    have hR : bitsOf m = 32 * pre.length + bitsOf x := by
      have h1 : okL pre := (okL_append.1 (hpx ▸ hr.1)).1
      have := bits_top (x := x) h1 hx0
      rw [← hpx, val_dg] at this
      exact this
    have hx : (dg m)[pre.length]? = some x := by rw [hpx]; simp
    have hl : (dg m).length = pre.length + 1 := by rw [hpx]; simp
    have hbx : x < 4294967296 := Lim.lt hr.1 hx
    have hb32 : bitsOf x ≤ 32 := bits_le_iff.2 hbx
    obtain ⟨A, cap, rfl, -⟩ := Num.form hv
    obtain ⟨g, o, rfl, hg, c0⟩ := Lim.cell hv hx
    generalize bitsOf m = R at *
    have HR := Lib.hid hR
    have e1 : (((dg m).length : Nat) : Int) - 1 = (pre.length : Int) := by omega
    have e2 : ((dg m).length : Int) = (pre.length : Int) + 1 := by omega
    have q0 : (0 : Int) ≤ (pre.length : Int) := Int.natCast_nonneg _
    have q1 : (pre.length : Int) < (pre.length : Int) + 1 := by omega
    have q2 : (((dg m).length : Int) == 0) = false := by simp; omega
    have q3 : pre.length ≤ 10000000 := by omega
    have q4 : IntKind.i64.wrap ((pre.length : Int) + 1 - 1) = (pre.length : Int) := by rw [IntWalk.i64_in _ (by omega)]; omega
    have q5 : IntKind.i64.wrap (32 * (pre.length : Int)) = 32 * (pre.length : Int) := IntWalk.i64_in _ (by omega)
    have q6 : IntKind.i64.wrap ((pre.length : Int)) = (pre.length : Int) := IntWalk.i64_in _ (by omega)
    clear hv hx hpx hr hR hne hl
    generalize (dg m).length = len at *
    generalize pre.length = pl at *
    go_enter Tryz.func90, Tryz.ntmps90
    go_wp2_with fail
    go_quiet (fail)
    go_wp2_with fail
    go_loopw [3, 4] (fun a t wr => ∃ A T : Nat, a = .int .i64 (A : Int) ∧ t = .int .u32 (T : Int) ∧ T < 4294967296 ∧ A + bitsOf T = R ∧ Drawn w wr) (fun _ t _ => (intOf t).toNat)
    case atStart => exact ⟨32 * pl, x, by first | rfl | go_num, rfl, hbx, HR.out.symm, nq, rfl⟩
    case round =>
      obtain ⟨A, T, rfl, rfl, hT, hs, hd⟩ := hrel
      have HD := Lib.hid hd
      have hA : A ≤ 320000032 := by have := HR.out; omega
      clear hd
      by_cases hz : T = 0
      · subst hz
        rw [bits_zero, Nat.add_zero] at hs
        subst hs
        go_wp2_with fail
        go_ret
        exact ⟨rfl, HD.out⟩
      · have t1 : decide ((0 : Int) < (T : Int)) = true := decide_eq_true (by omega)
        have t2 : (0 : Int) < (T : Int) := by omega
        have hh := bits_half hz
        obtain ⟨T', hT'⟩ : ∃ T', T' = T / 2 := ⟨_, rfl⟩
        rw [← hT'] at hh
        have e3 : (T : Int) / 2 = (T' : Int) := by omega
        have E3 := Lib.hid e3
        have HS := Lib.hid (show A + 1 + bitsOf T' = R by omega)
        have HT := Lib.hid (show T' < T by omega)
        have HT2 := Lib.hid (show T' < 4294967296 by omega)
        clear hh hs e3 hT'
        go_wp2_with fail
        go_roundw
        case rel => exact ⟨A + 1, T', by first | rfl | go_num, by rw [E3.out], HT2.out, HS.out, HD.out⟩
        case measure => have h1 := HT.out; have h2 := E3.out; simp [intOf]; omega
end Go.Proofs.YtlababdfdjjjaaaGreatDoor
namespace Go.Proofs.YtlababdfdjjjaaaGreatDoor
open Go.RowKit

/-! Division, bit by bit. -/
theorem half_div (m j : Nat) : m / 2 ^ (j + 1) = m / 2 ^ j / 2 := by rw [Nat.pow_succ, Nat.div_div_eq_div_mul]
theorem bit_of_limb {m q t : Nat} (ht : t < 32) : m / LB ^ q % LB / 2 ^ t % 2 = m / 2 ^ (32 * q + t) % 2 := by
  rw [Nat.pow_add, ← LBpow, ← Nat.div_div_eq_div_mul]
  generalize m / LB ^ q = y
  have e : LB = 2 ^ t * 2 ^ (32 - t) := by rw [← Nat.pow_add, show t + (32 - t) = 32 by omega]; rfl
  have h1 := Nat.mod_add_div y LB
  have h2 : y / 2 ^ t = y % LB / 2 ^ t + 2 ^ (32 - t) * (y / LB) := by
    conv => lhs; rw [← h1, e, Nat.mul_assoc, Nat.add_mul_div_left _ _ (Nat.two_pow_pos t)]
    rw [← e]
  rw [h2]
  have h3 : 2 ^ (32 - t) = 2 * 2 ^ (31 - t) := by rw [Nat.mul_comm, ← Nat.pow_succ]; congr 1; omega
  rw [h3, Nat.mul_assoc, Nat.add_mul_mod_self_left]
/-- A bit of the quotient. -/
theorem div_bit {m n j b r' : Nat} (hn : 0 < n) (hb : b = m / 2 ^ j % 2) (hr : r' = 2 * (m / 2 ^ (j + 1) % n) + b) :
    (r' < n → m / 2 ^ j % n = r' ∧ m / 2 ^ j / n = 2 * (m / 2 ^ (j + 1) / n)) ∧ (n ≤ r' → m / 2 ^ j % n = r' - n ∧ m / 2 ^ j / n = 2 * (m / 2 ^ (j + 1) / n) + 1) := by
  rw [half_div] at *
  generalize m / 2 ^ j = y at *
  have h1 := Nat.div_add_mod y 2
  have h2 := Nat.div_add_mod (y / 2) n
  have h3 := Nat.mod_lt (y / 2) hn
  have e : y = n * (2 * (y / 2 / n)) + r' := by
    have : n * (2 * (y / 2 / n)) = 2 * (n * (y / 2 / n)) := by rw [Nat.mul_left_comm]
    omega
  generalize y / 2 / n = Q at *
  generalize y / 2 % n = R at *
  constructor
  · intro h
    have := (Nat.div_mod_unique hn).2 ⟨(show r' + n * (2 * Q) = y by omega), h⟩
    exact ⟨this.2, this.1⟩
  · intro h
    have := (Nat.div_mod_unique hn).2 ⟨(show (r' - n) + n * (2 * Q + 1) = y by rw [Nat.mul_add]; omega), (by omega)⟩
    exact ⟨this.2, this.1⟩
theorem or_power {o t : Nat} (ht : t < 32) (ho : o < 4294967296) (hd : o % 2 ^ (t + 1) = 0) : bits .or .u32 (o : Int) ((2 ^ t : Nat) : Int) = ((o + 2 ^ t : Nat) : Int) ∧ o + 2 ^ t < 4294967296 := by
  have hp : 2 ^ t < 2 ^ (t + 1) := by rw [Nat.pow_succ]; have := Nat.two_pow_pos t; omega
  have h32 : 2 ^ (t + 1) ≤ 2 ^ 32 := Nat.pow_le_pow_right (by omega) (by omega)
  have e : (4294967296 : Nat) = 2 ^ (t + 1) * 2 ^ (31 - t) := by rw [← Nat.pow_add, show t + 1 + (31 - t) = 32 by omega]
  have hq : o = 2 ^ (t + 1) * (o / 2 ^ (t + 1)) := by have := Nat.div_add_mod o (2 ^ (t + 1)); omega
  have h2 : o + 2 ^ t < 4294967296 := by
    have : o / 2 ^ (t + 1) < 2 ^ (31 - t) := by rw [Nat.div_lt_iff_lt_mul (Nat.two_pow_pos _), Nat.mul_comm, ← e]; exact ho
    have h4 : 2 ^ (t + 1) * (o / 2 ^ (t + 1) + 1) ≤ 2 ^ (t + 1) * 2 ^ (31 - t) := Nat.mul_le_mul_left _ this
    rw [← e, Nat.mul_add, ← hq] at h4
    omega
  refine ⟨?_, h2⟩
  have h32' : (2 : Nat) ^ 32 = 4294967296 := rfl
  rw [u32_or_nat _ _ ho (by omega)]
  congr 1
  rw [hq, ← Nat.two_pow_add_eq_or_of_lt hp]
/-- Where no lower bit is set. -/
theorem limb_low {V q t : Nat} {x : Nat} (h : V = 2 ^ (32 * q + t + 1) * x) (ht : t < 32) : V / LB ^ q % LB % 2 ^ (t + 1) = 0 := by
  have e : LB = 2 ^ (t + 1) * 2 ^ (31 - t) := by rw [← Nat.pow_add, show t + 1 + (31 - t) = 32 by omega]; rfl
  have h1 : V / LB ^ q = 2 ^ (t + 1) * x := by
    rw [h, show 32 * q + t + 1 = 32 * q + (t + 1) by omega, Nat.pow_add, ← LBpow, Nat.mul_assoc, Nat.mul_div_cancel_left _ (pow_pos' _)]
  rw [h1]
  conv => lhs; rw [e, Nat.mul_mod_mul_left]
  exact Nat.mul_mod_right _ _
def RDiv (w : World) (m n : Nat) (e : Ending) (w' : World) : Prop := ∃ vq vr, e = .returned (.tuple #[vq, vr]) ∧ Num w' w'.heap.size vq (m / n) ∧ Num w' w'.heap.size vr (m % n) ∧ Below w.heap.size w w'
def RDvRel (w : World) (m n R N : Nat) (rv iv : Value) (wr : World) : Prop :=
  ∃ (k : Nat) (Q : List Nat), k ≤ R ∧ ((k = 0 ∧ iv = .int .i64 (-1)) ∨ ∃ j, k = j + 1 ∧ iv = .int .i64 (j : Int)) ∧ Num wr wr.heap.size rv (m / 2 ^ k % n) ∧ Q.length = N ∧ okL Q ∧ Row wr w.heap.size Q ∧ val Q = 2 ^ k * (m / 2 ^ k / n) ∧ Below w.heap.size w wr

set_option maxRecDepth 100000 in
set_option maxHeartbeats 400000 in
theorem rdivide_any (va vb : Value) (m n : Nat) (w : World) (ha : Num w w.heap.size va m) (hb : Num w w.heap.size vb n) (hla : (dg m).length ≤ 10000000) (hlb : (dg n).length ≤ 10000000) (hn : 0 < n) :
    Calls Tryz.prog 99 #[va, vb] w (RDiv w m n) := by
  have hR : bitsOf m ≤ 32 * (dg m).length := by rw [bits_le_iff, ← LBpow]; exact lt_dg m
  have hmlt := bits_lt m
  obtain ⟨A, capa, rfl, hcapa⟩ := ha.form
  obtain ⟨N, hN⟩ : ∃ N, N = (dg m).length := ⟨_, rfl⟩
  have hsz := fun w' (h : Below w.heap.size w w') => rsize_any (.slice A (dg m).length capa) m w.heap.size w' (ha.below h) hla
  have hmk := fun W => mkU N (by omega) W
  have HB0 := Lib.hid (show Below w.heap.size w (w.alloc (.cells (zeros N).toArray 64)) from (Below.refl _ _).alloc (Nat.le_refl _) _)
  have HR0 := Lib.hid (Row.new w N)
  have HS0 := Lib.hid (hsz _ HB0.out)
  have HA := Lib.hid ha
  have HB := Lib.hid hb
  have HML := Lib.hid hmlt
  have HLB := Lib.hid hlb
  have HN := Lib.hid hn
  rw [← hN] at HS0 hR HA hla
  have HNN := Lib.hid hN
  rw [← hN]
  clear ha hb hcapa hN hmlt hsz hlb hn
  generalize bitsOf m = R at *
  have R0 : (0 : Int) ≤ (R : Int) := Int.natCast_nonneg _
  go_enter Tryz.func99, Tryz.ntmps99
  go_wp2_with fail
  clear hmk
  refine HS0.out.mono ?_
  rintro e w1 ⟨he, hd⟩
  subst he
  have HD := Lib.hid hd
  have HROW := Lib.hid (show Row w1 w.heap.size (List.replicate N 0) by obtain ⟨q, rfl⟩ := hd; exact HR0.out)
  have HBL := Lib.hid (HB0.out.trans (hd.below.mono HB0.out.size))
  clear hd HS0 HB0 HR0
  go_wp2_with fail
  go_loopw [7, 8] (fun rv iv wr => RDvRel w m n R N rv iv wr) (fun _ i _ => (intOf i + 1).toNat)
  case atStart =>
    refine ⟨R, _, Nat.le_refl _, ?_, ?_, by simp, okL_zero _, HROW.out, ?_, HBL.out⟩
    · rcases Nat.eq_zero_or_pos R with h | h
      · left; exact ⟨h, by rw [h]; rfl⟩
      · right; exact ⟨R - 1, by omega, by congr 1; omega⟩
    · rw [Nat.div_eq_of_lt HML.out, Nat.zero_mod]; exact Num.zero _ _
    · rw [Nat.div_eq_of_lt HML.out, Nat.zero_div, Nat.mul_zero, val_zero]
  case round =>
    obtain ⟨k, Q, hk, hcase, hnum, hL, hok, hrow, hv, hbl⟩ := hrel
    rcases hcase with ⟨rfl, rfl⟩ | ⟨j, rfl, rfl⟩
    · have hlim := hrow.whole hok N (by omega)
      have htr := rtrim_any _ _ _ hlim (by omega)
      rw [Nat.pow_zero, Nat.div_one, Nat.one_mul] at hv
      rw [Nat.pow_zero, Nat.div_one] at hnum
      rw [hv, hL] at htr
      have HT := Lib.hid htr
      have HNU := Lib.hid hnum
      have HBB := Lib.hid hbl
      clear htr hlim hv hnum hbl hrow hok hL
      go_wp2_with fail
      refine HT.out.mono ?_
      rintro e w2 ⟨v, he, hq, hb2, -⟩
      subst he
      go_wp2_with fail
      go_ret2
      exact ⟨_, _, rfl, hq, HNU.out.up hb2, HBB.out.trans (hb2.mono HBB.out.size)⟩
    · obtain ⟨q, t, hj, ht⟩ : ∃ q t, j = 32 * q + t ∧ t < 32 := ⟨j / 32, j % 32, by omega, by omega⟩
      have hqN : q < N := by omega
      obtain ⟨x, hx⟩ : ∃ x, (dg m)[q]? = some x := ⟨(dg m)[q]'(by have := HNN.out; omega), List.getElem?_eq_getElem _⟩
      have hxv := limb_val (ok_dg m) q
      rw [hx, Option.getD_some, val_dg] at hxv
      have hbit := rbit_any (.slice A N capa) (dg m) q t x w.heap.size wr (HA.out.below hbl) hx ht (by omega)
      rw [hxv, bit_of_limb ht, ← hj] at hbit
      obtain ⟨b, hb⟩ : ∃ b, b = m / 2 ^ j % 2 := ⟨_, rfl⟩
      rw [← hb] at hbit
      have hb1 : b ≤ 1 := by omega
      obtain ⟨r', hr'⟩ : ∃ r', r' = 2 * (m / 2 ^ (j + 1) % n) + b := ⟨_, rfl⟩
      have hdiv := div_bit HN.out hb hr'
      have hrn : r' < 2 * n := by have := Nat.mod_lt (m / 2 ^ (j + 1)) HN.out; omega
      have HRN := Lib.hid hrn
      have hrl : (dg (m / 2 ^ (j + 1) % n)).length ≤ 10000000 := Nat.le_trans (dg_mono (Nat.le_of_lt (Nat.mod_lt _ HN.out))) HLB.out
      have hdb := rdouble_any _ _ b wr hnum (by omega) hb1
      rw [val_dg, ← hr'] at hdb
      have j0 : (0 : Int) ≤ (j : Int) := Int.natCast_nonneg _
      have HBIT := Lib.hid hbit
      have HDB := Lib.hid hdb
      have HDIV := Lib.hid hdiv
      have HJ := Lib.hid hj
      have HV := Lib.hid hv
      have HOK := Lib.hid hok
      have HL := Lib.hid hL
      have HRW := Lib.hid hrow
      have HBB := Lib.hid hbl
      clear hrn hbit hdb hdiv hb hr' hxv hx hj hv hok hL hrow hbl hnum hrl
      go_wp2_with fail
      refine HBIT.out.mono ?_
      rintro e w2 ⟨he, hw⟩
      subst he
      subst hw
      go_wp2_with fail
      refine HDB.out.mono ?_
      rintro e w2 ⟨v2, he, hn2, hb2, -⟩
      subst he
      have hr2n : (dg r').length ≤ 10000001 := by
        have h1 := HRN.out
        have h2 := HLB.out
        have h3 := lt_dg n
        have h4 : r' < LB ^ ((dg n).length + 1) := by
          rw [Nat.pow_succ]
          have := Nat.mul_le_mul_left (LB ^ (dg n).length) LB_two
          omega
        have := dg_le.2 h4
        omega
      have hbn := HB.out.up (HBB.out.trans (hb2.mono HBB.out.size))
      have hord := rorder_any v2 vb (dg r') (dg n) w2.heap.size w2 hn2 hbn (by omega) (by have := HLB.out; omega)
      rw [val_dg, val_dg] at hord
      have HRW2 := Lib.hid (HRW.out.up hb2)
      have HB2 := Lib.hid (HBB.out.trans (hb2.mono HBB.out.size))
      by_cases hlt : r' < n
      · rw [cmpI_lt hlt] at hord
        have HO := Lib.hid hord
        have HF := Lib.hid (HDIV.out.1 hlt)
        have HN2 := Lib.hid hn2
        clear hord hn2 hb2 hbn hr2n hlt
        go_wp2_with fail
        refine HO.out.mono ?_
        rintro e w3 ⟨he, hw⟩
        subst he
        subst hw
        go_wp2_with fail
        go_roundw
        case rel =>
          refine ⟨j, Q, by omega, ?_, by rw [HF.out.1]; exact HN2.out, HL.out, HOK.out, HRW2.out, ?_, HB2.out⟩
          · rcases Nat.eq_zero_or_pos j with h | h
            · left; exact ⟨h, by rw [h]; rfl⟩
            · right; exact ⟨j - 1, by omega, by congr 1; omega⟩
          · rw [HV.out, HF.out.2, Nat.pow_succ, Nat.mul_assoc]
        case measure => simp [intOf]
      · obtain ⟨c, hc, hc0⟩ : ∃ c, cmpI r' n = c ∧ 0 ≤ c := by
          unfold cmpI
          rw [if_neg hlt]
          split
          · exact ⟨0, rfl, by omega⟩
          · exact ⟨1, rfl, by omega⟩
        rw [hc] at hord
        have hmin := rminus_any v2 vb (dg r') (dg n) w2 hn2 hbn (by omega) (by rw [val_dg, val_dg]; omega)
        rw [val_dg, val_dg] at hmin
        have HO := Lib.hid hord
        have HM := Lib.hid hmin
        have HF := Lib.hid (HDIV.out.2 (by omega))
        have t1 : decide ((0 : Int) ≤ c) = true := decide_eq_true hc0
        clear hord hn2 hb2 hbn hr2n hlt hmin hc
        go_wp2_with fail
        refine HO.out.mono ?_
        rintro e w3 ⟨he, hw⟩
        subst he
        subst hw
        go_wp2_with fail
        refine HM.out.mono ?_
        rintro e w3 ⟨v3, he, hn3, hb3, hf3⟩
        subst he
        have HN3 := Lib.hid hn3
        have hrow3 := HRW2.out.up hb3
        have HB3 := Lib.hid (HB2.out.trans (hb3.mono HB2.out.size))
        obtain ⟨o, ho⟩ : ∃ o, Q[q]? = some o := ⟨Q[q]'(by have := HL.out; omega), List.getElem?_eq_getElem _⟩
        have hov := limb_val HOK.out q
        rw [ho, Option.getD_some] at hov
        have hol : o < 4294967296 := Lim.lt HOK.out ho
        have hod : o % 2 ^ (t + 1) = 0 := by rw [hov]; exact limb_low (by rw [HV.out, HJ.out]) ht
        obtain ⟨hor, hos⟩ := or_power ht hol hod
        have c0 := hrow3.cell ho
        have f0 := hrow3.frozen q
        have e1 : (j : Int).tdiv 32 = (q : Int) := by rw [Int.tdiv_eq_ediv_of_nonneg (Int.natCast_nonneg _)]; have := HJ.out; omega
        have e2 : (j : Int).tmod 32 = (t : Int) := by rw [Int.tmod_eq_emod_of_nonneg (Int.natCast_nonneg _)]; have := HJ.out; omega
        have q0 : (0 : Int) ≤ (q : Int) := Int.natCast_nonneg _
        have q1 : (q : Int) < (N : Int) := by omega
        have t0 : (0 : Int) ≤ (t : Int) := Int.natCast_nonneg _
        have i1 : IntKind.i64.wrap (q : Int) = (q : Int) := IntWalk.i64_in _ (by omega)
        have i2 : IntKind.i64.wrap (t : Int) = (t : Int) := IntWalk.i64_in _ (by omega)
        have hset := val_set (o + 2 ^ t) ho
        have HOR := Lib.hid hor
        have HOS := Lib.hid hos
        have HSET := Lib.hid hset
        have HRW3 := Lib.hid hrow3
        clear hn3 hb3 hov hod hor hos hset hrow3 ho
        go_wp2_with fail
        have hne3 : v3.ownBlock ≠ some w.heap.size := fun e => by
          have h1 := hf3 _ e
          have h2 := HRW2.out.lt
          omega
        have hpow : (2 : Int) ^ t % 4294967296 = ((2 ^ t : Nat) : Int) := by
          have h1 : 2 ^ t < 4294967296 := Nat.lt_of_le_of_lt (Nat.le_add_left _ _) HOS.out
          rw [show (2 : Int) ^ t = ((2 ^ t : Nat) : Int) by rw [Int.natCast_pow]; rfl]
          generalize 2 ^ t = z at *
          omega
        have HPW := Lib.hid hpow
        have HNE := Lib.hid hne3
        clear hf3 hne3 hpow
        go_still_tail 13, (by kernel_rfl)
        change wpList _ _ _ _ _ w3.drew
        have hrow4 : Row w3.drew w.heap.size Q := HRW3.out
        have f2 := hrow4.frozen q
        have d0 : w3.drew.cell? ⟨w.heap.size, q, none⟩ = some (.int .u32 (o : Int)) := c0
        have H4 := Lib.hid (hrow4.set q (o + 2 ^ t))
        have HN4 := Lib.hid (show Num w3.drew w3.drew.heap.size v3 (r' - n) from HN3.out)
        have HB4 := Lib.hid (show Below w.heap.size w w3.drew from HB3.out.drew)
        clear c0 f0 hrow4
        generalize w3.drew = w4 at *
        go_wp2_with fail
        rw [HPW.out, HOR.out]
        have hsz : (w4.setCell ⟨w.heap.size, q, none⟩ (.int .u32 ((o + 2 ^ t : Nat) : Int))).heap.size = w4.heap.size := by simp [World.setCell]
        have hv5 : val (Q.set q (o + 2 ^ t)) = 2 ^ j * (m / 2 ^ j / n) := by
          have h1 := HSET.out
          have h2 : LB ^ q * 2 ^ t = 2 ^ j := by rw [LBpow, ← Nat.pow_add, HJ.out]
          have h3 : ∀ X, 2 ^ (j + 1) * X = 2 ^ j * (2 * X) := fun X => by rw [Nat.pow_succ, Nat.mul_assoc]
          rw [Nat.mul_add, h2, HV.out, h3] at h1
          rw [HF.out.2, Nat.mul_add, Nat.mul_one]
          omega
        go_roundw
        case rel =>
          refine ⟨j, Q.set q (o + 2 ^ t), by omega, ?_, ?_, by rw [List.length_set]; exact HL.out, okL_set HOK.out HOS.out, H4.out, hv5, HB4.out.setCell (p := ⟨w.heap.size, q, none⟩) (Nat.le_refl _) _⟩
          · rcases Nat.eq_zero_or_pos j with h | h
            · left; exact ⟨h, by rw [h]; rfl⟩
            · right; exact ⟨j - 1, by omega, by congr 1; omega⟩
          · rw [hsz, HF.out.1]; exact HN4.out.other HNE.out
        case measure => simp [intOf]
end Go.Proofs.YtlababdfdjjjaaaGreatDoor
namespace Go.Proofs.YtlababdfdjjjaaaGreatDoor
open Go.RowKit

/-- As RNum, of a row that may be an argument's. -/
def RNum0 (w : World) (n : Nat) (e : Ending) (w' : World) : Prop := ∃ v, e = .returned v ∧ Num w' w'.heap.size v n ∧ Below w.heap.size w w'
theorem rgcd_step (a b : Nat) : Nat.gcd b (a % b) = Nat.gcd a b := by rw [Nat.gcd_comm a b, Nat.gcd_rec b a, Nat.gcd_comm]
def RcRel (w : World) (G M : Nat) (va vb : Value) (wr : World) : Prop :=
  ∃ a b : Nat, Num wr wr.heap.size va a ∧ Num wr wr.heap.size vb b ∧ (dg a).length ≤ M ∧ (dg b).length ≤ M ∧ Nat.gcd a b = G ∧ Below w.heap.size w wr

set_option maxRecDepth 100000 in
set_option maxHeartbeats 400000 in
theorem rcommon_any (va vb : Value) (m n : Nat) (w : World) (ha : Num w w.heap.size va m) (hb : Num w w.heap.size vb n) (hla : (dg m).length ≤ 10000000) (hlb : (dg n).length ≤ 10000000) :
    Calls Tryz.prog 101 #[va, vb] w (RNum0 w (Nat.gcd m n)) := by
  have hst := Lib.hid (show RcRel w (Nat.gcd m n) 10000000 va vb w from ⟨m, n, ha, hb, hla, hlb, rfl, Below.refl _ _⟩)
  clear ha hb hla hlb
  generalize Nat.gcd m n = G at *
  go_enter Tryz.func101, Tryz.ntmps101
  go_wp2_with fail
  go_loopw [0, 1] (fun x y wr => RcRel w G 10000000 x y wr) (fun x y wr => numOf wr y)
  case atStart => exact hst.out
  case round =>
    obtain ⟨a, b, hx, hy, hla, hlb, hG, hbl⟩ := hrel
    have e2 := numOf_eq hy
    have fx := hx.form
    have fy := hy.form
    obtain ⟨A, capa, rfl, -⟩ := fx
    obtain ⟨A', capb, rfl, -⟩ := fy
    by_cases h0 : b = 0
    · subst h0
      rw [Nat.gcd_zero_right] at hG
      subst hG
      have z1 : (dg 0).length = 0 := by rw [dg_zero]; rfl
      have HX := Lib.hid hx
      have HB := Lib.hid hbl
      rw [z1]
      clear hx hy hbl e2 hla hlb z1
      go_wp2_with fail
      go_ret
      exact ⟨_, rfl, HX.out, HB.out⟩
    · have hdiv := rdivide_any _ _ a b wr hx hy hla hlb (by omega)
      have hl0 : 0 < (dg b).length := by
        rcases Nat.eq_zero_or_pos (dg b).length with h | h
        · exact absurd (dg_nil.1 (List.eq_nil_of_length_eq_zero h)) h0
        · exact h
      have t1 : decide ((0 : Int) < ((dg b).length : Int)) = true := decide_eq_true (by omega)
      have t2 : (0 : Int) < ((dg b).length : Int) := by omega
      have HY := Lib.hid hy
      have HB := Lib.hid hbl
      have HDV := Lib.hid hdiv
      have E2 := Lib.hid e2
      have HLB := Lib.hid hlb
      have HG := Lib.hid (show Nat.gcd b (a % b) = G by rw [rgcd_step]; exact hG)
      have HML := Lib.hid (show a % b < b from Nat.mod_lt _ (by omega))
      clear hx hy hbl hdiv e2 hla hlb hG hl0
      go_wp2_with fail
      refine HDV.out.mono ?_
      rintro e w2 ⟨vq, vr, he, hq, hr, hb2⟩
      subst he
      have HR := Lib.hid hr
      have HB2 := Lib.hid hb2
      clear hq hr hb2
      go_wp2_with fail
      go_roundw
      case rel => exact ⟨b, a % b, HY.out.up HB2.out, HR.out, HLB.out, Nat.le_trans (dg_mono (Nat.le_of_lt HML.out)) HLB.out, HG.out, HB.out.trans (HB2.out.mono HB.out.size)⟩
      case measure => rw [numOf_eq HR.out, E2.out]; exact HML.out
end Go.Proofs.YtlababdfdjjjaaaGreatDoor
