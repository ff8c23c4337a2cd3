import Derived.Test.YtlababdfdjjjaaaGreatDoorPR
import Derived.Test.YtlababdfdjjjaaaGreatDoorYRE
import Derived.Test.YtlababdfdjjjaaaGreatDoorT2
import Derived.Laws.OwnMore
namespace Go.Proofs.YtlababdfdjjjaaaGreatDoor
open Go.RowKit

/-! The reference's Text. -/
theorem own_len {w3 : World} {base n k : Nat} {v' : Value} (h : w3.ownsRow base 64 1 v' k ([] ++ (dg n).map u32)) : w3.ownsRow base 64 1 v' (dg n).length ((dg n).map u32) := by
  have e : k = (dg n).length := by have := h.1; simpa using this.symm
  subst e
  simpa using h
set_option maxRecDepth 100000 in
theorem rtrim_own (v : Value) (l : List Nat) (w : World) (hv : Lim w w.heap.size v l) (hlen : l.length ≤ 1000000000) :
    Calls Tryz.prog 76 #[v] w fun e w' => ∃ v', e = .returned v' ∧ w'.ownsRow w.heap.size 64 1 v' (dg (val l)).length ((dg (val l)).map u32) ∧ Below w.heap.size w w' := by
  obtain ⟨A, cap, rfl, hcap⟩ := hv.form
  have HV := Lib.hid hv
  clear hv
  obtain ⟨i0, hi0, hz0, hz1, hz2⟩ := info_parts Tryz.infoU
  go_enter Tryz.func76, Tryz.ntmps76
  go_wp2
  go_loop [3] (fun n => ∃ k : Nat, k ≤ l.length ∧ n = .int .i64 k ∧ val (l.take k) = val l) (fun n => (intOf n).toNat)
  case atStart => exact ⟨l.length, Nat.le_refl _, rfl, by rw [List.take_length]⟩
  case round =>
    obtain ⟨k, hk, rfl, hr⟩ := hrel
    have HR := Lib.hid hr
    clear hr
    by_cases hk0 : 0 < k
    · obtain ⟨x, hx⟩ : ∃ x, l[k - 1]? = some x := ⟨l[k - 1]'(by omega), List.getElem?_eq_getElem (by omega)⟩
      obtain ⟨g, o, rfl, hg, c0⟩ := HV.out.cell hx
      obtain ⟨j, rfl⟩ : ∃ j, k = j + 1 := ⟨k - 1, by omega⟩
      simp only [Nat.add_sub_cancel] at hx c0
      have HX := Lib.hid hx
      clear hx
      by_cases hx0 : x = 0
      · subst hx0
        go_wp2
        go_round
        case rel => exact ⟨j, by omega, by go_num, trim_step HX.out HR.out⟩
        case measure => simp [intOf]
      · have q1 : ((x : Int) == 0) = false := by simp [hx0]
        have hsz : Below w.heap.size w (w.alloc (.cells #[] 64)) := (Below.refl _ _).alloc (Nat.le_refl _) _
        have hsrc := (HV.out.take (j + 1) hk).up hsz
        rw [trim_dg_end HV.out.2 HR.out (.inr ⟨x, by simpa using HX.out, hx0⟩)] at hsrc
        have hlen' : ((dg (val l)).map u32).length = (j + 1) * 1 := by rw [List.length_map, ← trim_dg_end HV.out.2 HR.out (.inr ⟨x, by simpa using HX.out, hx0⟩), List.length_take]; omega
        have hcells : ∀ j u, ((dg (val l)).map u32)[j]? = some u → (w.alloc (.cells #[] 64)).cell? ((⟨g, o, none⟩ : Addr).add j) = some u := by
          obtain ⟨ad, e, hc⟩ := SlC.src hsrc.1 (by rw [hlen']; omega)
          cases e
          exact hc
        have HD := Lib.hid hlen'
        have HC := Lib.hid hcells
        have HB := Lib.hid hsz
        clear hsz hsrc hlen' hcells
        go_wp2_with (at_builtin; refine wpList_append_own _ rfl _ _ 24 rfl w.heap.size 64 i0 (.int .u32 0) 1 4 Tryz.underlying24 hi0 hz0 hz1 hz2 rfl (by decide) _ 0 [] rfl (own_empty w) (⟨g, o, none⟩ : Addr) (j + 1) cap ((dg (val l)).map u32) rfl HD.out HC.out (one_u32 _) (by unfold maxLen; omega) (by omega) (by simp) ?_; intro v' w3 hown3 hgrow _)
        go_ret
        exact ⟨_, rfl, own_len hown3, rbelow_grown HB.out (own_empty w) hgrow⟩
    · obtain rfl : k = 0 := by omega
      rcases A with _ | ad
      · have h0 := HV.out.take 0 hk
        rw [trim_dg_end HV.out.2 HR.out (.inl rfl)] at h0
        have HN := Lib.hid h0
        clear h0
        go_wp2_with fail
        go_ret
        have e0 : dg (val l) = [] := (trim_dg_end HV.out.2 HR.out (.inl rfl)).symm
        rw [e0]
        exact ⟨_, rfl, own_empty w, (Below.refl _ _).alloc (Nat.le_refl _) _⟩
      · skip
        have hsz : Below w.heap.size w (w.alloc (.cells #[] 64)) := (Below.refl _ _).alloc (Nat.le_refl _) _
        have hsrc := (HV.out.take (0) hk).up hsz
        rw [trim_dg_end HV.out.2 HR.out (.inl rfl)] at hsrc
        have hlen' : ((dg (val l)).map u32).length = (0) * 1 := by rw [List.length_map, ← trim_dg_end HV.out.2 HR.out (.inl rfl), List.length_take]; omega
        have hcells : ∀ j u, ((dg (val l)).map u32)[j]? = some u → (w.alloc (.cells #[] 64)).cell? (ad.add j) = some u := by
          rw [← trim_dg_end HV.out.2 HR.out (.inl rfl)]
          intro j u h
          simp at h
        have HD := Lib.hid hlen'
        have HC := Lib.hid hcells
        have HB := Lib.hid hsz
        clear hsz hsrc hlen' hcells
        go_wp2_with (at_builtin; refine wpList_append_own _ rfl _ _ 24 rfl w.heap.size 64 i0 (.int .u32 0) 1 4 Tryz.underlying24 hi0 hz0 hz1 hz2 rfl (by decide) _ 0 [] rfl (own_empty w) ad (0) cap ((dg (val l)).map u32) rfl HD.out HC.out (one_u32 _) (by unfold maxLen; omega) (by omega) (by simp) ?_; intro v' w3 hown3 hgrow _)
        go_ret
        exact ⟨_, rfl, own_len hown3, rbelow_grown HB.out (own_empty w) hgrow⟩
/-- The rest in a row of its own, and the digits that have been found. -/
def TtRel (w : World) (m : Nat) (lv sv : Value) (wr : World) : Prop :=
  ∃ (q : Nat) (S : ByteArray), wr.ownsRow w.heap.size 64 1 lv (dg q).length ((dg q).map u32) ∧ sv = .string S ∧ dtext q ++ S.data.toList = dtext m ∧ (dg q).length ≤ 512 ∧ Below w.heap.size w wr
def TiDiv (w : World) (Q : List Nat) (g cap : Nat) (rv iv : Value) (wr : World) : Prop :=
  ∃ (i r : Nat) (L : List Nat), i ≤ Q.length ∧ ((i = 0 ∧ iv = .int .i64 (-1)) ∨ (∃ j : Nat, i = j + 1 ∧ iv = .int .i64 (j : Int))) ∧ rv = .int .u64 (r : Int) ∧ r < 10 ∧ L.length = Q.length ∧ okL L ∧ L.take i = Q.take i ∧
    val (L.drop i) * 10 + r = val (Q.drop i) ∧ wr.ownsRow w.heap.size 64 1 (.slice (some ⟨g, 0, none⟩) Q.length cap) Q.length (L.map u32) ∧ Below w.heap.size w wr
theorem own_form {wr : World} {B : Nat} {lv : Value} {l : List Nat} (h : wr.ownsRow B 64 1 lv l.length (l.map u32)) : (lv = .slice none 0 0 ∧ l = []) ∨ ∃ g cap, lv = .slice (some ⟨g, 0, none⟩) l.length cap := by
  rcases h.2 with ⟨h1, h2⟩ | ⟨g, cap, cur, h1, _⟩
  · exact .inl ⟨h1, List.eq_nil_of_length_eq_zero h2⟩
  · exact .inr ⟨g, cap, h1⟩
theorem own_num {wr : World} {B q : Nat} {lv : Value} (h : wr.ownsRow B 64 1 lv (dg q).length ((dg q).map u32)) : Num wr wr.heap.size lv q :=
  ⟨SlC.of_own h, ok_dg q⟩
theorem own_lim {wr : World} {B g cap : Nat} {L : List Nat} (ho : okL L) (h : wr.ownsRow B 64 1 (.slice (some ⟨g, 0, none⟩) L.length cap) L.length (L.map u32)) : Lim wr wr.heap.size (.slice (some ⟨g, 0, none⟩) L.length cap) L :=
  ⟨SlC.of_own h, ho⟩
theorem own_lim' {wr : World} {B g cap n : Nat} {L : List Nat} (ho : okL L) (hn : L.length = n) (h : wr.ownsRow B 64 1 (.slice (some ⟨g, 0, none⟩) n cap) n (L.map u32)) : Lim wr wr.heap.size (.slice (some ⟨g, 0, none⟩) n cap) L := by
  subst hn; exact own_lim ho h
theorem own_store {wr : World} {B g cap n : Nat} {L : List Nat} (h : wr.ownsRow B 64 1 (.slice (some ⟨g, 0, none⟩) n cap) n (L.map u32)) (j x : Nat) :
    (wr.setCell ⟨g, j, none⟩ (.int .u32 (x : Int))).ownsRow B 64 1 (.slice (some ⟨g, 0, none⟩) n cap) n ((L.set j x).map u32) := by
  rw [List.map_set]
  exact (h.stored j _).1
theorem own_cell {wr : World} {B g cap n : Nat} {L : List Nat} (h : wr.ownsRow B 64 1 (.slice (some ⟨g, 0, none⟩) n cap) n (L.map u32)) {j x : Nat} (hx : L[j]? = some x) (hj : j < n) : wr.cell? ⟨g, j, none⟩ = some (.int .u32 (x : Int)) := by
  rw [h.cellAt j (by omega), List.getElem?_map, hx]; rfl
theorem dig_str (W : World) (r : Nat) (hr : r < 10) : (convert 80 9 (.slice (some ⟨W.heap.size, 0, none⟩) 1 1)).run Tryz.prog (W.alloc (.cells #[.int .u8 (48 + (r : Int))] 5)) =
    .ok (.string ⟨#[UInt8.ofNat (48 + r)]⟩) (W.alloc (.cells #[.int .u8 (48 + (r : Int))] 5)) := by
  have h := run_convert_bytes_back (P := Tryz.prog) (W.alloc (.cells #[.int .u8 (48 + (r : Int))] 5)) 80 9 5 ⟨W.heap.size, 0, none⟩ 1 [UInt8.ofNat (48 + r)] Tryz.underlying80 Tryz.underlying5 Tryz.underlying9 (fun j hj => by
    obtain rfl : j = 0 := by simpa using hj
    have e : (⟨W.heap.size, 0, none⟩ : Addr).add 0 = ⟨W.heap.size, 0, none⟩ := rfl
    rw [e, World.cell?_alloc_new]
    have h2 := (digit_of r hr).2
    simp only [List.getElem_cons_zero, h2]
    rfl)
  exact h
theorem dtext_fits {q m K : Nat} {S : List UInt8} (h : dtext q ++ S = dtext m) (hm : (dg m).length ≤ K) : S.length ≤ 10 * K := by
  have h1 : m < LB ^ K := dg_le.1 hm
  have h2 : LB ^ K ≤ 10 ^ (10 * K) := by
    rw [Nat.pow_mul]
    exact Nat.pow_le_pow_left (by rw [LB_eq]; decide) K
  have h3 := dtext_len m (10 * K) (Nat.lt_of_lt_of_le h1 h2)
  rw [← h, List.length_append] at h3
  omega
/-- Where a number's limbs lie. -/
def MidOk (W : World) (A : Option Addr) (m : Nat) : Prop := (A = none ∧ dg m = []) ∨ ∃ ad, A = some ad ∧ ∀ j u, ((dg m).map u32)[j]? = some u → (W.alloc (.cells #[] 64)).cell? (ad.add j) = some u
theorem mid_ok {W : World} {A : Option Addr} {n cap m : Nat} (hnm : Num W W.heap.size (.slice A n cap) m) : MidOk W A m := by
  have hsz : Below W.heap.size W (W.alloc (.cells #[] 64)) := (Below.refl _ _).alloc (Nat.le_refl _) _
  have hsrc := Num.up hnm hsz
  rcases A with _ | ad
  · left
    refine ⟨rfl, ?_⟩
    rcases hd : dg m with _ | ⟨x, r⟩
    · rfl
    · obtain ⟨A', cap', e, -, hh⟩ := hnm.1
      rw [hd] at hh
      obtain ⟨g, o, rfl, -⟩ := hh (by simp)
      cases e
  · right
    refine ⟨ad, rfl, fun j u hu => ?_⟩
    have hlt : 0 < ((dg m).map u32).length := by have := (List.getElem?_eq_some_iff.1 hu).1; omega
    obtain ⟨ad', e, hc⟩ := SlC.src hsrc.1 hlt
    cases e
    exact hc j u hu
theorem dtext_pos {m : Nat} (h : m ≠ 0) : dtext m = Lib.decDigits m := by unfold dtext; rw [if_neg h]

set_option maxRecDepth 100000 in
set_option maxHeartbeats 4000000 in
theorem rText_any (va : Value) (la : List Nat) (w : World) (ha : Arg w va la) :
    Calls Tryz.prog 24 #[va] w fun e w' => e = .returned (.tuple #[.string ⟨(textW la).1.toArray⟩, .int .i64 (textW la).2]) ∧ Below w.heap.size w w' := by
  obtain ⟨i0, hi0, hz0, hz1, hz2⟩ := info_parts Tryz.infoU
  have hex := rexam1 va la w ha
  obtain ⟨A, capa, rfl, -⟩ := ha.1.form
  unfold textW
  by_cases h : examW [la] = 0
  · rw [if_pos h]
    rw [h] at hex
    have hnum : ∀ W, Below w.heap.size w W → Num W W.heap.size (.slice A la.length capa) (val la) := fun W hW => (ha.num h (by simp)).1.up hW
    obtain ⟨n1, n2, n3⟩ := ha.num h (by simp)
    have HEX := Lib.hid hex
    have hmid : ∀ W, Below w.heap.size w W → MidOk W A (val la) := fun W hW => mid_ok (hnum W hW)
    have HMID := Lib.hid hmid
    have HL := Lib.hid n2
    have hll : la.length = (dg (val la)).length := by rw [n3]
    rw [hll] at HEX ⊢
    clear hex hnum hmid ha h n1 n2 n3 hll
    generalize val la = m at *
    show Calls _ _ _ _ fun e w' => e = .returned (.tuple #[.string ⟨(Lib.decDigits m).toArray⟩, .int .i64 0]) ∧ Below w.heap.size w w'
    obtain ⟨t, ht⟩ : ∃ t : ByteArray, t = ⟨(Lib.decDigits m).toArray⟩ := ⟨_, rfl⟩
    rw [← ht]
    have HTT := Lib.hid ht
    clear ht
    rcases A with _ | ad
    · have hd : dg m = [] := by
        rcases HMID.out w (Below.refl _ _) with ⟨-, h⟩ | ⟨ad, h, -⟩
        · exact h
        · cases h
      rw [hd] at HEX ⊢
      have HDM := Lib.hid hd
      clear hd HMID
      go_enter Tryz.func24, Tryz.ntmps24
      go_wp2_with fail
      refine HEX.out.mono ?_
      rintro e w2 ⟨he, hb2⟩
      subst he
      have hown : (w2.alloc (.cells #[] 64)).ownsRow w.heap.size 64 1 (.slice (some ⟨w2.heap.size, 0, none⟩) 0 0) (dg m).length ((dg m).map u32) := by
        rw [HDM.out]
        exact Go.Joins.ownsRow_le (own_empty w2) hb2.size
      have hb3 : Below w.heap.size w (w2.alloc (.cells #[] 64)) := hb2.trans ((Below.refl _ w2).alloc hb2.size _)
      have HOWN := Lib.hid hown
      have HB3 := Lib.hid hb3
      clear hown hb3 hb2 HEX
      go_wp2_with fail
      go_loopw [5, 6] (fun lv sv wr => TtRel w m lv sv wr) (fun lv _ wr => numOf wr lv)
      case atStart => exact ⟨m, ⟨#[]⟩, HOWN.out, rfl, by simp, HL.out, HB3.out⟩
      case round =>
        obtain ⟨q, S, hown, rfl, hS, hql, hb⟩ := hrel
        have hnum := own_num hown
        have e2 := numOf_eq hnum
        have HS := Lib.hid hS
        have HOW := Lib.hid hown
        have HB := Lib.hid hb
        have E2 := Lib.hid e2
        have HQL := Lib.hid hql
        clear hS hown hb e2 hql hnum HOWN HB3
        by_cases hq0 : q = 0
        · subst hq0
          have hlen0 : (dg 0).length = 0 := by rw [dg_zero]; rfl
          obtain ⟨A0, c0, rfl⟩ : ∃ A c, u5 = .slice A 0 c := by
            rcases own_form HOW.out with ⟨h, -⟩ | ⟨g, cap, h⟩
            · exact ⟨none, 0, h⟩
            · rw [hlen0] at h; exact ⟨_, _, h⟩
          have hSS : S.data.toList = dtext m := by have h := HS.out; rw [dtext_zero, List.nil_append] at h; exact h
          by_cases hm0 : m = 0
          · have hSz : S.size = 0 := by rw [← bl_len, hSS, hm0, dtext_zero]; rfl
            have e3 := empty_yes S hSz
            have e4 := isEmpty_yes S hSz
            have ht0 : t = ⟨#[48]⟩ := by rw [HTT.out, hm0, dec_small (by omega)]; rfl
            subst ht0
            clear hSS hm0 hSz hlen0 E2 HQL
            go_wp2_with fail
            go_ret2
            exact ⟨rfl, HB.out⟩
          · have hSt : S = t := by
              rw [dtext_pos hm0] at hSS
              rw [HTT.out]
              apply ByteArray.ext
              rw [← hSS]
            subst hSt
            have hSz : 0 < S.size := by
              rw [← bl_len, hSS, dtext_pos hm0]
              exact List.length_pos_iff.2 (dec_ne m)
            have e3 := empty_no S hSz
            have e4 := isEmpty_no S hSz
            clear hSS hm0 hSz hlen0 E2 HQL
            go_wp2_with fail
            go_ret2
            exact ⟨rfl, HB.out⟩
        · have hpos : 0 < (dg q).length := by
            rcases Nat.eq_zero_or_pos (dg q).length with h | h
            · exact absurd (dg_zero_iff.1 h) hq0
            · exact h
          obtain ⟨g, cap, rfl⟩ : ∃ g cap, u5 = .slice (some ⟨g, 0, none⟩) (dg q).length cap := by
            rcases own_form HOW.out with ⟨-, h⟩ | h
            · rw [h] at hpos; simp at hpos
            · exact h
          have hgB := (HOW.out.lt g rfl).1
          have hvq : val (dg q) = q := val_dg q
          have hoq : okL (dg q) := ok_dg q
          have HQ0 := Lib.hid hq0
          have HVQ := Lib.hid hvq
          have HOQ := Lib.hid hoq
          have hq512 := HQL.out
          clear hvq hoq hq0
          have HL3 : Hid ((dg q).length ≤ 512) := HQL
          obtain ⟨Q, hQ⟩ : ∃ Q, Q = dg q := ⟨_, rfl⟩
          rw [← hQ] at HQL hpos HOW E2 HVQ HOQ hq512 ⊢
          clear hQ
          obtain ⟨j0, hj0⟩ : ∃ j0, Q.length = j0 + 1 := ⟨Q.length - 1, by omega⟩
          have hjI : (Q.length : Int) - 1 = (j0 : Int) := by omega
          have HJ := Lib.hid hj0
          clear hj0
          go_wp2_with fail
          go_loopw [7, 8] (fun rv iv wr' => TiDiv w Q g cap rv iv wr') (fun _ iv _ => mI iv)
          case atStart => exact ⟨Q.length, 0, Q, Nat.le_refl _, .inr ⟨j0, HJ.out, rfl⟩, rfl, by omega, rfl, HOQ.out, rfl, by rw [List.drop_length]; rfl, HOW.out, HB.out⟩
          case round =>
            obtain ⟨i, r, L, hi, hiv, rfl, hr, hL, ho, htk, hv, how, hb2⟩ := hrel
            rcases hiv with ⟨rfl, rfl⟩ | ⟨j, rfl, rfl⟩
            · have hv' : val L * 10 + r = q := by have h := hv; rw [List.drop_zero, List.drop_zero, HVQ.out] at h; exact h
              have htr := rtrim_own _ L wr (own_lim' ho hL how) (by omega)
              have e5 : val L = q / 10 := by omega
              rw [e5] at htr
              have hrq : r = q % 10 := by omega
              have hstep := dtext_step HQ0.out
              rw [← hrq] at hstep
              have hrI : (r : Int) < 10 := by omega
              have HTR := Lib.hid htr
              have HSTEP := Lib.hid hstep
              have HBB := Lib.hid hb2
              clear htr hv' hv htk ho hL how hstep hb2 e5 hrq hi hjI
              go_wp2_with fail
              refine HTR.out.mono ?_
              rintro e w5 ⟨v5, he, hown5, hb5⟩
              subst he
              have HB5 := Lib.hid hb5
              have HOWN5 := Lib.hid hown5
              clear hb5 hown5 HTR
              have hcv := dig_str w5 r hr
              obtain ⟨D, hD⟩ : ∃ D : ByteArray, D = ⟨#[UInt8.ofNat (48 + r)]⟩ := ⟨_, rfl⟩
              rw [← hD] at hcv
              have hDs : D.size ≤ 1 := by rw [hD]; exact Nat.le_refl _
              have hSs : S.size ≤ 10 * 512 := by rw [← bl_len]; exact dtext_fits HS.out HL.out
              have HD := Lib.hid hD
              clear hD
              go_wp2_with fail
              have hba : Below w5.heap.size w5 (w5.alloc (.cells #[.int .u8 (48 + (r : Int))] 5)) := (Below.refl _ _).alloc (Nat.le_refl _) _
              have how5 := Go.Joins.ownsRow_le (HOWN5.out.alloc (.cells #[.int .u8 (48 + (r : Int))] 5)) HBB.out.size
              have hrel2 : TtRel w m v5 (.string (D ++ S)) (w5.alloc (.cells #[.int .u8 (48 + (r : Int))] 5)) := ⟨q / 10, D ++ S, how5, rfl, by rw [← HS.out, HSTEP.out, HD.out]; simp, Nat.le_trans (dg_mono (Nat.div_le_self _ _)) HL3.out, HBB.out.trans ((HB5.out.trans (hba.mono HB5.out.size)).mono HBB.out.size)⟩
              refine ⟨hrel2, ?_⟩
              rw [numOf_eq (own_num how5), E2.out]
              have := HQ0.out
              omega
            · have hjl : j < L.length := by omega
              obtain ⟨x, hx⟩ : ∃ x, L[j]? = some x := ⟨L[j], List.getElem?_eq_getElem hjl⟩
              have hxq : Q[j]? = some x := by
                have h1 : (L.take (j + 1))[j]? = (Q.take (j + 1))[j]? := by rw [htk]
                rw [List.getElem?_take, List.getElem?_take, if_pos (by omega), if_pos (by omega)] at h1
                rw [← h1]; exact hx
              have hxB : x < 4294967296 := Lim.lt ho hx
              have c0 := own_cell how hx (by omega)
              have f0 := how.frozenAt j
              obtain ⟨qd, tt, hqd, htt, hqI, htI, hqB, ht10⟩ : ∃ qd tt : Nat, qd = (r * LB + x) / 10 ∧ tt = (r * LB + x) % 10 ∧ IntKind.u32.wrap (((r : Int) * 4294967296 + (x : Int)) / 10) = (qd : Int) ∧ ((r : Int) * 4294967296 + (x : Int)) % 10 = (tt : Int) ∧ qd < LB ∧ tt < 10 := by
                refine ⟨(r * 4294967296 + x) / 10, (r * 4294967296 + x) % 10, by rw [LB_eq], by rw [LB_eq], ?_, by omega, by rw [LB_eq]; omega, by omega⟩
                rw [IntKind.wrap_u32]; omega
              have hst := own_store how j qd
              have hstep := ten_round hx hxq hv hqd htt
              have htk2 := take_round (d := qd) htk
              have hrI : (r : Int) < 10 := by omega
              have hxI : (x : Int) < 4294967296 := by omega
              have hjI2 : (j : Int) < (Q.length : Int) := by omega
              have HST := Lib.hid hst
              have HSTEP := Lib.hid hstep
              have HTK2 := Lib.hid htk2
              have HBB := Lib.hid hb2
              have HO := Lib.hid ho
              have HLL := Lib.hid hL
              have HXX := Lib.hid hx
              have HQB := Lib.hid hqB
              clear hst hstep htk2 hb2 ho hL hx htk hv hxq how hqd htt hqB hjI
              go_wp2_with fail
              have hiv : (j = 0 ∧ Value.int .i64 ((j : Int) - 1) = .int .i64 (-1)) ∨ (∃ j' : Nat, j = j' + 1 ∧ Value.int .i64 ((j : Int) - 1) = .int .i64 (j' : Int)) := by
                rcases j with _ | j'
                · exact .inl ⟨rfl, rfl⟩
                · exact .inr ⟨j', rfl, by congr 1; omega⟩
              have hL2 : (L.set j qd).length = Q.length := by rw [List.length_set]; exact HLL.out
              have hr2 : Value.int .u64 (((r : Int) * 4294967296 + (x : Int)) % 10) = .int .u64 (tt : Int) := by rw [htI]
              have hm : mI (Value.int .i64 ((j : Int) - 1)) < mI (Value.int .i64 (j : Int)) := by simp [mI]
              have hin : TiDiv w Q g cap (Value.int .u64 (((r : Int) * 4294967296 + (x : Int)) % 10)) (Value.int .i64 ((j : Int) - 1)) (wr.setCell ⟨g, j, none⟩ (.int .u32 (qd : Int))) :=
                ⟨j, tt, L.set j qd, by omega, hiv, hr2, ht10, hL2, okL_set HO.out HQB.out, HTK2.out, HSTEP.out, HST.out, HBB.out.setCell (p := ⟨g, j, none⟩) hgB _⟩
              first
                | exact ⟨hin, hm⟩
                | (go_roundw
                   case rel => exact hin
                   case measure => exact hm)
    · go_enter Tryz.func24, Tryz.ntmps24
      go_wp2_with fail
      refine HEX.out.mono ?_
      rintro e w2 ⟨he, hb2⟩
      subst he
      have hc : ∀ j u, ((dg m).map u32)[j]? = some u → (w2.alloc (.cells #[] 64)).cell? (ad.add j) = some u := by
        rcases HMID.out w2 hb2 with ⟨h, -⟩ | ⟨ad', h, hc⟩
        · cases h
        · cases h; exact hc
      have hlen' : ((dg m).map u32).length = (dg m).length * 1 := by simp
      have HB2 := Lib.hid hb2
      have HD := Lib.hid hlen'
      have HC := Lib.hid hc
      have HLM := HL.out
      clear hlen' hc hb2 HMID HEX
      go_wp2_with (at_builtin; refine wpList_append_own _ rfl _ _ 24 rfl w2.heap.size 64 i0 (.int .u32 0) 1 4 Tryz.underlying24 hi0 hz0 hz1 hz2 rfl (by decide) _ 0 [] rfl (own_empty w2) ad (dg m).length capa ((dg m).map u32) rfl HD.out HC.out (one_u32 _) (by unfold maxLen; omega) (by omega) (by simp) ?_; intro v' w3 hown3 hgrow _)
      have hown : w3.ownsRow w.heap.size 64 1 v' (dg m).length ((dg m).map u32) := Go.Joins.ownsRow_le (own_len hown3) HB2.out.size
      have hb3 : Below w.heap.size w w3 := HB2.out.trans ((rbelow_grown ((Below.refl _ w2).alloc (Nat.le_refl _) _) (own_empty w2) hgrow).mono HB2.out.size)
      have HOWN := Lib.hid hown
      have HB3 := Lib.hid hb3
      clear hown hb3 hown3 hgrow HC HD HB2
      go_wp2_with fail
      go_loopw [5, 6] (fun lv sv wr => TtRel w m lv sv wr) (fun lv _ wr => numOf wr lv)
      case atStart => exact ⟨m, ⟨#[]⟩, HOWN.out, rfl, by simp, HL.out, HB3.out⟩
      case round =>
        obtain ⟨q, S, hown, rfl, hS, hql, hb⟩ := hrel
        have hnum := own_num hown
        have e2 := numOf_eq hnum
        have HS := Lib.hid hS
        have HOW := Lib.hid hown
        have HB := Lib.hid hb
        have E2 := Lib.hid e2
        have HQL := Lib.hid hql
        clear hS hown hb e2 hql hnum HOWN HB3
        by_cases hq0 : q = 0
        · subst hq0
          have hlen0 : (dg 0).length = 0 := by rw [dg_zero]; rfl
          obtain ⟨A0, c0, rfl⟩ : ∃ A c, u5 = .slice A 0 c := by
            rcases own_form HOW.out with ⟨h, -⟩ | ⟨g, cap, h⟩
            · exact ⟨none, 0, h⟩
            · rw [hlen0] at h; exact ⟨_, _, h⟩
          have hSS : S.data.toList = dtext m := by have h := HS.out; rw [dtext_zero, List.nil_append] at h; exact h
          by_cases hm0 : m = 0
          · have hSz : S.size = 0 := by rw [← bl_len, hSS, hm0, dtext_zero]; rfl
            have e3 := empty_yes S hSz
            have e4 := isEmpty_yes S hSz
            have ht0 : t = ⟨#[48]⟩ := by rw [HTT.out, hm0, dec_small (by omega)]; rfl
            subst ht0
            clear hSS hm0 hSz hlen0 E2 HQL
            go_wp2_with fail
            go_ret2
            exact ⟨rfl, HB.out⟩
          · have hSt : S = t := by
              rw [dtext_pos hm0] at hSS
              rw [HTT.out]
              apply ByteArray.ext
              rw [← hSS]
            subst hSt
            have hSz : 0 < S.size := by
              rw [← bl_len, hSS, dtext_pos hm0]
              exact List.length_pos_iff.2 (dec_ne m)
            have e3 := empty_no S hSz
            have e4 := isEmpty_no S hSz
            clear hSS hm0 hSz hlen0 E2 HQL
            go_wp2_with fail
            go_ret2
            exact ⟨rfl, HB.out⟩
        · have hpos : 0 < (dg q).length := by
            rcases Nat.eq_zero_or_pos (dg q).length with h | h
            · exact absurd (dg_zero_iff.1 h) hq0
            · exact h
          obtain ⟨g, cap, rfl⟩ : ∃ g cap, u5 = .slice (some ⟨g, 0, none⟩) (dg q).length cap := by
            rcases own_form HOW.out with ⟨-, h⟩ | h
            · rw [h] at hpos; simp at hpos
            · exact h
          have hgB := (HOW.out.lt g rfl).1
          have hvq : val (dg q) = q := val_dg q
          have hoq : okL (dg q) := ok_dg q
          have HQ0 := Lib.hid hq0
          have HVQ := Lib.hid hvq
          have HOQ := Lib.hid hoq
          have hq512 := HQL.out
          clear hvq hoq hq0
          have HL3 : Hid ((dg q).length ≤ 512) := HQL
          obtain ⟨Q, hQ⟩ : ∃ Q, Q = dg q := ⟨_, rfl⟩
          rw [← hQ] at HQL hpos HOW E2 HVQ HOQ hq512 ⊢
          clear hQ
          obtain ⟨j0, hj0⟩ : ∃ j0, Q.length = j0 + 1 := ⟨Q.length - 1, by omega⟩
          have hjI : (Q.length : Int) - 1 = (j0 : Int) := by omega
          have HJ := Lib.hid hj0
          clear hj0
          go_wp2_with fail
          go_loopw [7, 8] (fun rv iv wr' => TiDiv w Q g cap rv iv wr') (fun _ iv _ => mI iv)
          case atStart => exact ⟨Q.length, 0, Q, Nat.le_refl _, .inr ⟨j0, HJ.out, rfl⟩, rfl, by omega, rfl, HOQ.out, rfl, by rw [List.drop_length]; rfl, HOW.out, HB.out⟩
          case round =>
            obtain ⟨i, r, L, hi, hiv, rfl, hr, hL, ho, htk, hv, how, hb2⟩ := hrel
            rcases hiv with ⟨rfl, rfl⟩ | ⟨j, rfl, rfl⟩
            · have hv' : val L * 10 + r = q := by have h := hv; rw [List.drop_zero, List.drop_zero, HVQ.out] at h; exact h
              have htr := rtrim_own _ L wr (own_lim' ho hL how) (by omega)
              have e5 : val L = q / 10 := by omega
              rw [e5] at htr
              have hrq : r = q % 10 := by omega
              have hstep := dtext_step HQ0.out
              rw [← hrq] at hstep
              have hrI : (r : Int) < 10 := by omega
              have HTR := Lib.hid htr
              have HSTEP := Lib.hid hstep
              have HBB := Lib.hid hb2
              clear htr hv' hv htk ho hL how hstep hb2 e5 hrq hi hjI
              go_wp2_with fail
              refine HTR.out.mono ?_
              rintro e w5 ⟨v5, he, hown5, hb5⟩
              subst he
              have HB5 := Lib.hid hb5
              have HOWN5 := Lib.hid hown5
              clear hb5 hown5 HTR
              have hcv := dig_str w5 r hr
              obtain ⟨D, hD⟩ : ∃ D : ByteArray, D = ⟨#[UInt8.ofNat (48 + r)]⟩ := ⟨_, rfl⟩
              rw [← hD] at hcv
              have hDs : D.size ≤ 1 := by rw [hD]; exact Nat.le_refl _
              have hSs : S.size ≤ 10 * 512 := by rw [← bl_len]; exact dtext_fits HS.out HL.out
              have HD := Lib.hid hD
              clear hD
              go_wp2_with fail
              have hba : Below w5.heap.size w5 (w5.alloc (.cells #[.int .u8 (48 + (r : Int))] 5)) := (Below.refl _ _).alloc (Nat.le_refl _) _
              have how5 := Go.Joins.ownsRow_le (HOWN5.out.alloc (.cells #[.int .u8 (48 + (r : Int))] 5)) HBB.out.size
              have hrel2 : TtRel w m v5 (.string (D ++ S)) (w5.alloc (.cells #[.int .u8 (48 + (r : Int))] 5)) := ⟨q / 10, D ++ S, how5, rfl, by rw [← HS.out, HSTEP.out, HD.out]; simp, Nat.le_trans (dg_mono (Nat.div_le_self _ _)) HL3.out, HBB.out.trans ((HB5.out.trans (hba.mono HB5.out.size)).mono HBB.out.size)⟩
              refine ⟨hrel2, ?_⟩
              rw [numOf_eq (own_num how5), E2.out]
              have := HQ0.out
              omega
            · have hjl : j < L.length := by omega
              obtain ⟨x, hx⟩ : ∃ x, L[j]? = some x := ⟨L[j], List.getElem?_eq_getElem hjl⟩
              have hxq : Q[j]? = some x := by
                have h1 : (L.take (j + 1))[j]? = (Q.take (j + 1))[j]? := by rw [htk]
                rw [List.getElem?_take, List.getElem?_take, if_pos (by omega), if_pos (by omega)] at h1
                rw [← h1]; exact hx
              have hxB : x < 4294967296 := Lim.lt ho hx
              have c0 := own_cell how hx (by omega)
              have f0 := how.frozenAt j
              obtain ⟨qd, tt, hqd, htt, hqI, htI, hqB, ht10⟩ : ∃ qd tt : Nat, qd = (r * LB + x) / 10 ∧ tt = (r * LB + x) % 10 ∧ IntKind.u32.wrap (((r : Int) * 4294967296 + (x : Int)) / 10) = (qd : Int) ∧ ((r : Int) * 4294967296 + (x : Int)) % 10 = (tt : Int) ∧ qd < LB ∧ tt < 10 := by
                refine ⟨(r * 4294967296 + x) / 10, (r * 4294967296 + x) % 10, by rw [LB_eq], by rw [LB_eq], ?_, by omega, by rw [LB_eq]; omega, by omega⟩
                rw [IntKind.wrap_u32]; omega
              have hst := own_store how j qd
              have hstep := ten_round hx hxq hv hqd htt
              have htk2 := take_round (d := qd) htk
              have hrI : (r : Int) < 10 := by omega
              have hxI : (x : Int) < 4294967296 := by omega
              have hjI2 : (j : Int) < (Q.length : Int) := by omega
              have HST := Lib.hid hst
              have HSTEP := Lib.hid hstep
              have HTK2 := Lib.hid htk2
              have HBB := Lib.hid hb2
              have HO := Lib.hid ho
              have HLL := Lib.hid hL
              have HXX := Lib.hid hx
              have HQB := Lib.hid hqB
              clear hst hstep htk2 hb2 ho hL hx htk hv hxq how hqd htt hqB hjI
              go_wp2_with fail
              have hiv : (j = 0 ∧ Value.int .i64 ((j : Int) - 1) = .int .i64 (-1)) ∨ (∃ j' : Nat, j = j' + 1 ∧ Value.int .i64 ((j : Int) - 1) = .int .i64 (j' : Int)) := by
                rcases j with _ | j'
                · exact .inl ⟨rfl, rfl⟩
                · exact .inr ⟨j', rfl, by congr 1; omega⟩
              have hL2 : (L.set j qd).length = Q.length := by rw [List.length_set]; exact HLL.out
              have hr2 : Value.int .u64 (((r : Int) * 4294967296 + (x : Int)) % 10) = .int .u64 (tt : Int) := by rw [htI]
              have hm : mI (Value.int .i64 ((j : Int) - 1)) < mI (Value.int .i64 (j : Int)) := by simp [mI]
              have hin : TiDiv w Q g cap (Value.int .u64 (((r : Int) * 4294967296 + (x : Int)) % 10)) (Value.int .i64 ((j : Int) - 1)) (wr.setCell ⟨g, j, none⟩ (.int .u32 (qd : Int))) :=
                ⟨j, tt, L.set j qd, by omega, hiv, hr2, ht10, hL2, okL_set HO.out HQB.out, HTK2.out, HSTEP.out, HST.out, HBB.out.setCell (p := ⟨g, j, none⟩) hgB _⟩
              first
                | exact ⟨hin, hm⟩
                | (go_roundw
                   case rel => exact hin
                   case measure => exact hm)
  · rw [if_neg h]
    generalize examW [la] = ec at *
    have q1 : (ec == 0) = false := by simp [h]
    have q2 : (ec != 0) = true := by simp [h]
    have HEX := Lib.hid hex
    clear hex ha h
    generalize la.length = l1 at *
    go_enter Tryz.func24, Tryz.ntmps24
    go_wp2_with fail
    refine HEX.out.mono ?_
    rintro e w2 ⟨he, hb2⟩
    subst he
    go_wp2_with fail
    go_ret2
    exact ⟨rfl, hb2⟩
end Go.Proofs.YtlababdfdjjjaaaGreatDoor
