import Derived.Test.YtmbcejldifobnaaDoorC01
import Derived.Lib.SliceRun
import Derived.Laws.CopyOwn
import Derived.StillTailTactics
import Derived.Laws.BitsAllLaws
namespace Go.Proofs.YtmbcejldifobnaaDoor
open Go.RowKit
theorem setCells_row {g : Nat} : ∀ (vs L : List Nat) (o : Nat) (w : World), RowW w g L → o + vs.length ≤ L.length → RowW (w.setCells g o (vs.map u64w)) g (L.take o ++ vs ++ L.drop (o + vs.length)) ∧ w.grownBy (w.setCells g o (vs.map u64w)) (some g) ∧ (w.setCells g o (vs.map u64w)).heap.size = w.heap.size
  | [], L, o, w, h, _ => by
    rw [List.append_nil, List.length_nil, Nat.add_zero, List.take_append_drop]
    exact ⟨h, grownBy_refl _ _, rfl⟩
  | x :: r, L, o, w, h, hl => by
    rw [List.length_cons] at hl
    obtain ⟨h1, h2, h3⟩ := setCells_row r (L.set o x) (o + 1) (w.setCell ⟨g, o, none⟩ (u64w x)) (h.set o x) (by rw [List.length_set]; omega)
    have e : (L.set o x).take (o + 1) ++ r ++ (L.set o x).drop (o + 1 + r.length) = L.take o ++ (x :: r) ++ L.drop (o + (x :: r).length) := by
      rw [List.take_add_one, List.getElem?_set_self (by omega), List.take_set, List.set_eq_of_length_le (by rw [List.length_take]; omega), List.drop_set, if_pos (by omega), List.length_cons]
      rw [show o + 1 + r.length = o + (r.length + 1) by omega]
      simp
    rw [e] at h1
    refine ⟨h1, grownBy_trans (grownBy_set (grownBy_refl _ _) _ _) h2, by rw [show (w.setCells g o ((x :: r).map u64w)) = ((w.setCell ⟨g, o, none⟩ (u64w x)).setCells g (o + 1) (r.map u64w)) from rfl, h3]; simp [World.setCell]⟩
/-- clear of a whole row. -/
theorem clearW (w : World) (g n : Nat) (R : List Nat) (hr : RowW w g R) (hl : R.length = n) (hn : 0 < n) : ∃ w', (∀ ty, (Builtin.clear_ #[181] ty #[.slice (some ⟨g, 0, none⟩) n n]).run Tryd.prog w = .ok (.tuple #[]) w') ∧
    RowW w' g (List.replicate n 0) ∧ w.grownBy w' (some g) ∧ w'.heap.size = w.heap.size := by
  obtain ⟨h1, h2, h3⟩ := setCells_row (g := g) (List.replicate n 0) R 0 w hr (by simp; omega)
  rw [List.map_replicate] at h1 h2 h3
  refine ⟨_, fun ty => Lib.run_clear_slice w 181 180 ty (.int .u64 0) Tryd.underlying181 Tryd.zeroValue180 rfl rfl g 0 n n hn (fun j hj => ?_) (fun j _ => hr.frozen _), ?_, h2, h3⟩
  · have hj' : j < R.length := by omega
    rw [Nat.zero_add, hr.cell (List.getElem?_eq_getElem hj')]; rfl
  · have e : List.take 0 R ++ List.replicate n 0 ++ List.drop (0 + (List.replicate n 0).length) R = List.replicate n 0 := by simp [hl]
    rw [e] at h1
    exact h1
theorem one_u64 (l : List Nat) : ∀ v ∈ l.map u64w, v.oneCell' = true := by
  intro v hv
  obtain ⟨x, _, rfl⟩ := List.mem_map.1 hv
  rfl
/-- copy of one row's upper half over another row. -/
theorem copyW (w : World) (gx gr n o dl dc sc : Nat) (X R : List Nat) (hx : RowW w gx X) (hr : RowW w gr R) (hl : X.length = n) (hR : o + n = R.length) (hn : 0 < n) (hd : dl = n) :
    ∃ w', (Builtin.copy_ #[181, 181] 3 #[.slice (some ⟨gx, 0, none⟩) dl dc, .slice (some ⟨gr, o, none⟩) n sc]).run Tryd.prog w = .ok (.int .i64 (n : Int)) w' ∧ RowW w' gx (R.drop o) ∧ w.grownBy w' (some gx) ∧ w'.heap.size = w.heap.size := by
  have hdl : (R.drop o).length = n := by rw [List.length_drop]; omega
  have h := run_copy_row (P := Tryd.prog) w 181 181 3 180 gx 0 dl dc ⟨gr, o, none⟩ n sc (X.map u64w).toArray 180 ((R.drop o).map u64w) Tryd.underlying181 Tryd.sizeW hx
    (by rw [List.length_map, hdl, hd]; exact (Nat.min_self n).symm) (fun j v hv => by
      rw [List.getElem?_map] at hv
      obtain ⟨y, hy, rfl⟩ := Option.map_eq_some_iff.1 hv
      rw [List.getElem?_drop] at hy
      have e : (⟨gr, o, none⟩ : Addr).add j = ⟨gr, o + j, none⟩ := by
        unfold Addr.add; by_cases h : j = 0 <;> simp [h]
      rw [e]; exact hr.cell hy) (by simp [hl]; omega) (one_u64 _)
  have e : (((X.map u64w).toArray).toList.take 0 ++ (R.drop o).map u64w ++ ((X.map u64w).toArray).toList.drop (0 + ((R.drop o).map u64w).length)).toArray = ((R.drop o).map u64w).toArray := by
    simp [hl]; omega
  rw [e, List.length_map, hdl] at h
  exact ⟨_, h, setRow_heap w gx _ _ 180 _ hx, ⟨rfl, rfl, rfl, by simp [World.setRow], fun k _ hne => setRow_other w gx k _ (by rintro rfl; exact hne rfl)⟩, by simp [World.setRow]⟩
theorem or_shl {r p : Nat} (hp : p < WB) : bits .or .u64 (IntKind.u64.wrap ((r : Int) * 2)) ((p : Int) / 9223372036854775808) = ((2 * r % WB + p / 9223372036854775808 : Nat) : Int) := by
  rw [WB_eq] at *
  have e1 : IntKind.u64.wrap ((r : Int) * 2) = ((2 * r % 18446744073709551616 : Nat) : Int) := by rw [IntKind.wrap_u64]; omega
  have e2 : (p : Int) / 9223372036854775808 = ((p / 9223372036854775808 : Nat) : Int) := by omega
  rw [e1, e2, u64_or_nat _ _ (by omega) (by omega), nat_join 1 _ _ (by omega) (by omega)]
def SqW (w : World) (gr n : Nat) (X : List Nat) (iv : Value) (wr : World) : Prop :=
  ∃ (k : Nat) (R : List Nat), k ≤ n ∧ iv = .int .i64 (k : Int) ∧ SqRel X k R ∧ RowW wr gr R ∧ w.grownBy wr (some gr) ∧ wr.heap.size = w.heap.size
def ShW (w : World) (gx n : Nat) (R : List Nat) (iv : Value) (wr : World) : Prop :=
  ∃ (k : Nat) (X : List Nat), k ≤ n ∧ iv = .int .i64 (k : Int) ∧ ShRel R n k X ∧ RowW wr gx X ∧ w.grownBy wr (some gx) ∧ wr.heap.size = w.heap.size
/-- The two blocks may have changed, nothing else. -/
structure Two (a b : Nat) (w w' : World) : Prop where
  os : w'.os = w.os
  tape : w'.tape = w.tape
  output : w'.output = w.output
  size : w'.heap.size = w.heap.size
  block : ∀ k, k ≠ a → k ≠ b → w'.heap[k]? = w.heap[k]?
theorem Two.of_left {a b : Nat} {w w' : World} (h : w.grownBy w' (some a)) (hz : w'.heap.size = w.heap.size) : Two a b w w' :=
  ⟨h.os, h.tape, h.output, hz, fun k h1 _ => by
    rcases Nat.lt_or_ge k w.heap.size with hk | hk
    · exact h.block k hk (fun e => h1 (by cases e; rfl))
    · rw [Array.getElem?_eq_none (by omega), Array.getElem?_eq_none (by omega)]⟩
theorem Two.of_right {a b : Nat} {w w' : World} (h : w.grownBy w' (some b)) (hz : w'.heap.size = w.heap.size) : Two a b w w' :=
  ⟨h.os, h.tape, h.output, hz, fun k _ h2 => by
    rcases Nat.lt_or_ge k w.heap.size with hk | hk
    · exact h.block k hk (fun e => h2 (by cases e; rfl))
    · rw [Array.getElem?_eq_none (by omega), Array.getElem?_eq_none (by omega)]⟩
theorem Two.trans {a b : Nat} {w w1 w2 : World} (h : Two a b w w1) (h' : Two a b w1 w2) : Two a b w w2 :=
  ⟨h'.os.trans h.os, h'.tape.trans h.tape, h'.output.trans h.output, h'.size.trans h.size, fun k h1 h2 => (h'.block k h1 h2).trans (h.block k h1 h2)⟩
theorem Two.below {a b B : Nat} {w0 w w' : World} (h0 : Below B w0 w) (h : Two a b w w') (ha : B ≤ a) (hb : B ≤ b) : Below B w0 w' where
  os := h.os.trans h0.os
  tape := h.tape.trans h0.tape
  output := h.output.trans h0.output
  size := by rw [h.size]; exact h0.size
  block := fun k hk => (h.block k (by omega) (by omega)).trans (h0.block k hk)

set_option maxRecDepth 100000 in
set_option maxHeartbeats 2000000 in
theorem squareW (gr gx n : Nat) (R X : List Nat) (w : World) (hr : RowW w gr R) (hx : RowW w gx X) (hX : okW X) (hne : gx ≠ gr) (hl : X.length = n) (hRl : R.length = 2 * n) (hn : 1 ≤ n) (hn2 : n ≤ 20000000000000) :
    Calls Tryd.prog 145 #[.slice (some ⟨gx, 0, none⟩) n n, .slice (some ⟨gr, 0, none⟩) (2 * n) (2 * n)] w fun e w' =>
      ∃ X' R' : List Nat, e = .returned (.bool (sqB (2 ^ (64 * n - 1)) (wv X))) ∧ RowW w' gx X' ∧ okW X' ∧ X'.length = n ∧ wv X' = sqM (2 ^ (64 * n - 1)) (wv X) ∧ RowW w' gr R' ∧ R'.length = 2 * n ∧ Two gx gr w w' := by
  obtain ⟨w1, hcl, hr1, hg1, hz1⟩ := clearW w gr (2 * n) R hr hRl (by omega)
  have hx1 := hx.grown hg1 hne
  have hsq : SqRel X 0 (List.replicate (2 * n) 0) := by rw [← hl]; exact SqRel.start X
  have HSQ := Lib.hid hsq
  have HR1 := Lib.hid hr1
  have HX1 := Lib.hid hx1
  have HXO := Lib.hid hX
  have HL := Lib.hid hl
  have HNE := Lib.hid hne
  have HT1 := Lib.hid (Two.of_right (a := gx) hg1 hz1)
  clear hsq hr1 hx1 hX hl hne hg1 hr hx hRl
  go_enter Tryd.func145, Tryd.ntmps145
  go_wp2_with fail
  go_loopw [14] (fun iv wr => SqW w1 gr n X iv wr) (fun iv _ => n - (intOf iv).toNat)
  case atStart => exact ⟨0, _, Nat.zero_le _, rfl, HSQ.out, HR1.out, grownBy_refl _ _, rfl⟩
  case round =>
    obtain ⟨k, R2, hk, rfl, hsq, hrow, hgr, hz⟩ := hrel
    have hRl2 : R2.length = 2 * n := by rw [hsq.1, HL.out]
    by_cases hlt : k < n
    · obtain ⟨wd, hwd⟩ : ∃ x, X[k]? = some x := ⟨X[k]'(by rw [HL.out]; exact hlt), List.getElem?_eq_getElem _⟩
      have hxr := HX1.out.grown hgr HNE.out
      have c0 := hxr.cell hwd
      have hcall := fun ca => addTimesW gr gx k n ca R2 X wd wr hrow hsq.2.1 hxr HXO.out HNE.out HL.out (by omega) (wlt HXO.out hwd) (by omega) (by omega)
      have hstep := fun c M hm => hsq.step (k := k) (c := c) (M := M) hwd (by rw [HL.out]; exact hm)
      have hok := hsq.2.1
      have HCALL := Lib.hid hcall
      have HSTEP := Lib.hid hstep
      have HGR := Lib.hid hgr
      have HZ := Lib.hid hz
      have HRL := Lib.hid hRl2
      have hkI : (k : Int) < (n : Int) := by omega
      clear hcall hstep hgr hz hsq hrow hxr hwd hok hRl2
      go_wp2_with fail
      refine (HCALL.out _).mono ?_
      rintro e w3 ⟨c, M, he, hmac, hrow3, hgr3, hz3⟩
      subst he
      have hMl : M.length = n := by rw [hmac.1, List.length_take, List.length_drop, HRL.out]; omega
      have hst := HSTEP.out c M hmac
      rw [HL.out] at hst
      have hl3 : (R2.take k ++ M ++ R2.drop (k + n)).length = 2 * n := by
        rw [List.length_append, List.length_append, List.length_take, List.length_drop, HRL.out, hMl]; omega
      obtain ⟨z, hzz⟩ : ∃ z, (R2.take k ++ M ++ R2.drop (k + n))[k + n]? = some z := ⟨_, List.getElem?_eq_getElem (by omega)⟩
      have d0 := hrow3.cell hzz
      have f0 := hrow3.frozen (k + n)
      have HST := Lib.hid hst
      have HR3 := Lib.hid (hrow3.set (k + n) c)
      have HG3 := Lib.hid (grownBy_trans HGR.out hgr3)
      have HZ3 := Lib.hid (hz3.trans HZ.out)
      clear hst hrow3 hgr3 hz3 hzz hl3 hMl hmac
      go_wp2_with fail
      exact ⟨⟨k + 1, _, by omega, by go_num, HST.out, HR3.out, grownBy_set HG3.out _ _, by simp [World.setCell]; exact HZ3.out⟩, by simp [intOf]; omega⟩
    · obtain rfl : k = n := by omega
      have hv : wv R2 = wv X * wv X := SqRel.done (by rw [HL.out]; exact hsq)
      have hok := hsq.2.1
      obtain ⟨tw, htw⟩ : ∃ t, R2[2 * k - 1]? = some t := ⟨R2[2 * k - 1]'(by omega), List.getElem?_eq_getElem _⟩
      have c1 := hrow.cell htw
      have htW := wlt hok htw
      obtain ⟨hb1, hb2⟩ := sq_big hn HL.out hRl2 hok hv htw
      have hxr := HX1.out.grown hgr HNE.out
      have hsm := fun X' h => sq_small (X := X') hn HL.out hRl2 hok hv htw h
      have HV := Lib.hid hv
      have HOK := Lib.hid hok
      have HROW := Lib.hid hrow
      have HXR := Lib.hid hxr
      have HB1 := Lib.hid hb1
      have HB2 := Lib.hid hb2
      have HSM := Lib.hid hsm
      have HTW2 := Lib.hid (HT1.out.trans (Two.of_right (a := gx) hgr hz))
      have HRL := Lib.hid hRl2
      have HTT := Lib.hid htw
      clear hv hok hrow hxr hb1 hb2 hsm hgr hz hsq hRl2 htw hlt hk
      by_cases hbig : 9223372036854775808 ≤ tw
      · have q1 : ((tw : Int) / 9223372036854775808 == 1) = true := by
          have : (tw : Int) / 9223372036854775808 = 1 := by omega
          rw [this]; rfl
        have hsb := HB1.out.1 hbig
        have hsm := HB2.out hbig
        obtain ⟨w5, hcp, hr5, hg5, hz5⟩ := copyW wr gx gr k k k k (2 * k - k) X R2 HXR.out HROW.out HL.out (by have := HRL.out; omega) hn rfl
        have hcp2 : (Builtin.copy_ #[181, 181] 3 #[.slice (some ⟨gx, 0, none⟩) k k, .slice (some ⟨gr, k, none⟩) (2 * k - k) (2 * k - k)]).run Tryd.prog wr = .ok (.int .i64 (k : Int)) w5 := by
          have e : (Value.slice (some ⟨gr, k, none⟩) (2 * k - k) (2 * k - k)) = .slice (some ⟨gr, k, none⟩) k (2 * k - k) := by congr 1; omega
          rw [e]; exact hcp
        have HSB := Lib.hid hsb
        have HS2 := Lib.hid hsm
        have HR5 := Lib.hid hr5
        have HR6 := Lib.hid (HROW.out.grown hg5 HNE.out.symm)
        have HT5 := Lib.hid (HTW2.out.trans (Two.of_left (b := gr) hg5 hz5))
        clear hbig hsb hsm hr5 hg5 hz5 hcp
        go_wp2_with fail
        go_ret
        refine ⟨R2.drop k, R2, ret_bool HSB.out.symm, HR5.out, okW_drop HOK.out k, by rw [List.length_drop, HRL.out]; omega, HS2.out, HR6.out, HRL.out, HT5.out⟩
      · have q1 : ((tw : Int) / 9223372036854775808 == 1) = false := beq_false_of_ne (by omega)
        have htl : tw < 9223372036854775808 := by omega
        have HTL := Lib.hid htl
        have hst := ShRel.start (R := R2) HL.out HXO.out
        have HST := Lib.hid hst
        clear hbig htl hst
        go_wp2_with fail
        go_loopw [49] (fun iv wr2 => ShW wr gx k R2 iv wr2) (fun iv _ => k - (intOf iv).toNat)
        case atStart => exact ⟨0, X, Nat.zero_le _, rfl, HST.out, HXR.out, grownBy_refl _ _, rfl⟩
        case round =>
          obtain ⟨i, X', hi, rfl, hsh, hrx, hgr, hz⟩ := hrel
          by_cases hlt : i < k
          · obtain ⟨r, hr⟩ : ∃ r, R2[k + i]? = some r := ⟨R2[k + i]'(by have := HRL.out; omega), List.getElem?_eq_getElem _⟩
            obtain ⟨j, hj⟩ : ∃ j, k + i = j + 1 := ⟨k + i - 1, by omega⟩
            have hj2 : k + i - 1 = j := by omega
            obtain ⟨p, hp⟩ : ∃ p, R2[j]? = some p := ⟨R2[j]'(by have := HRL.out; omega), List.getElem?_eq_getElem _⟩
            obtain ⟨z, hz2⟩ : ∃ z, X'[i]? = some z := ⟨X'[i]'(by have := hsh.1; omega), List.getElem?_eq_getElem _⟩
            have hrr := HROW.out.grown hgr HNE.out.symm
            have c2 := hrr.cell hr
            have c3 := hrr.cell hp
            have c4 := hrx.cell hz2
            have f4 := hrx.frozen i
            have hrW := wlt HOK.out hr
            have hpW := wlt HOK.out hp
            obtain ⟨b1, b2⟩ := shl_word hrW hpW
            have hnx := hsh.step hlt HOK.out hr (by rw [hj2]; exact hp)
            have HNX := Lib.hid hnx
            have HRX := Lib.hid hrx
            have HGR := Lib.hid hgr
            have HZ := Lib.hid hz
            have hiI : (i : Int) < (k : Int) := by omega
            clear hnx hrx hgr hz hr hp hz2 hrr hsh
            have s1 : IntKind.i64.wrap ((k : Int) + (i : Int)) = (k : Int) + (i : Int) := IntWalk.i64_in _ (by omega)
            have s2 : (k : Int) + (i : Int) - 1 = (j : Int) := by omega
            have s2' : IntKind.i64.wrap (j : Int) = (j : Int) := IntWalk.i64_in _ (by omega)
            have s3 : (0 : Int) ≤ (k : Int) + (i : Int) := by omega
            have s4 : (k : Int) + (i : Int) < ((2 * k : Nat) : Int) := by omega
            have s4' : (k : Int) + (i : Int) < 2 * (k : Int) := by omega
            have s5 : ((k : Int) + (i : Int)).toNat = k + i := by omega
            have s6 : (0 : Int) ≤ (j : Int) := Int.natCast_nonneg _
            have s7 : (j : Int) < ((2 * k : Nat) : Int) := by omega
            have s7' : (j : Int) < 2 * (k : Int) := by omega
            clear hj hj2
            have s9 : (0 : Int) ≤ (i : Int) := Int.natCast_nonneg _
            go_wp2
            go_still_tail 19, (by kernel_rfl)
            change wpList _ _ _ _ _ wr.drew
            have hrx2 : RowW wr.drew gx X' := HRX.out
            have f5 := hrx2.frozen i
            have d4 : wr.drew.cell? ⟨gx, i, none⟩ = some (.int .u64 (z : Int)) := c4
            have H3 := Lib.hid (hrx2.set i (2 * r % WB + p / 9223372036854775808))
            have HG2 := Lib.hid (grownBy_trans HGR.out (grownBy_drewN wr (some gx) 1))
            have HZ2 : Hid (wr.drew.heap.size = _) := Lib.hid HZ.out
            have HG2 : Hid (World.grownBy _ wr.drew (some gx)) := HG2
            clear c2 c3 c4 f4 hrx2
            generalize wr.drew = w2 at *
            go_wp2
            rw [or_shl hpW]
            exact ⟨⟨i + 1, _, by omega, by go_num, HNX.out, H3.out, grownBy_set HG2.out _ _, by simp [World.setCell]; exact HZ2.out⟩, by simp [intOf]; omega⟩
          · obtain rfl : i = k := by omega
            have hfs : sqB (2 ^ (64 * i - 1)) (wv X) = false := by
              cases hs : sqB (2 ^ (64 * i - 1)) (wv X)
              · rfl
              · have := HB1.out.2 hs; have := HTL.out; omega
            have HFS := Lib.hid hfs
            have HRR := Lib.hid (HROW.out.grown hgr HNE.out.symm)
            have HTT2 := Lib.hid (HTW2.out.trans (Two.of_left (b := gr) hgr hz))
            have HV2 := Lib.hid (HSM.out X' HTL.out hsh)
            have HSH := Lib.hid hsh
            have HRX := Lib.hid hrx
            clear hfs hsh hrx hgr hz hi hlt
            go_wp2
            go_ret
            exact ⟨X', R2, ret_bool HFS.out.symm, HRX.out, HSH.out.2.1, HSH.out.1, HV2.out, HRR.out, HRL.out, HTT2.out⟩
end Go.Proofs.YtmbcejldifobnaaDoor

namespace Go.Proofs.YtmbcejldifobnaaDoor
/-- Two lists of powers have the same product. -/
def eqvP (l l' : List (Nat × Int)) : Prop := upP l * dnP l' = dnP l * upP l'
/-- The product of the powers with all exponents taken as positive. -/
def allP : List (Nat × Int) → Nat
  | [] => 1
  | x :: r => x.1 ^ x.2.natAbs * allP r
def posN (l : List (Nat × Int)) : Prop := ∀ x ∈ l, 1 ≤ x.1
theorem upP_pos' : ∀ {l : List (Nat × Int)}, posN l → 0 < upP l
  | [], _ => Nat.one_pos
  | x :: r, h => Nat.mul_pos (Nat.pow_pos (h x (by simp))) (upP_pos' fun y hy => h y (by simp [hy]))
theorem dnP_pos' : ∀ {l : List (Nat × Int)}, posN l → 0 < dnP l
  | [], _ => Nat.one_pos
  | x :: r, h => Nat.mul_pos (Nat.pow_pos (h x (by simp))) (dnP_pos' fun y hy => h y (by simp [hy]))
theorem allP_pos : ∀ {l : List (Nat × Int)}, posN l → 0 < allP l
  | [], _ => Nat.one_pos
  | x :: r, h => Nat.mul_pos (Nat.pow_pos (h x (by simp))) (allP_pos fun y hy => h y (by simp [hy]))
theorem upP_append : ∀ a b : List (Nat × Int), upP (a ++ b) = upP a * upP b
  | [], b => by simp [upP]
  | x :: r, b => by show x.1 ^ _ * upP (r ++ b) = x.1 ^ _ * upP r * upP b; rw [upP_append r b, Nat.mul_assoc]
theorem dnP_append : ∀ a b : List (Nat × Int), dnP (a ++ b) = dnP a * dnP b
  | [], b => by simp [dnP]
  | x :: r, b => by show x.1 ^ _ * dnP (r ++ b) = x.1 ^ _ * dnP r * dnP b; rw [dnP_append r b, Nat.mul_assoc]
theorem allP_append : ∀ a b : List (Nat × Int), allP (a ++ b) = allP a * allP b
  | [], b => by simp [allP]
  | x :: r, b => by show x.1 ^ _ * allP (r ++ b) = x.1 ^ _ * allP r * allP b; rw [allP_append r b, Nat.mul_assoc]
theorem posN_append {a b : List (Nat × Int)} : posN (a ++ b) ↔ posN a ∧ posN b := by
  unfold posN
  constructor
  · intro h; exact ⟨fun x hx => h x (by simp [hx]), fun x hx => h x (by simp [hx])⟩
  · rintro ⟨h1, h2⟩ x hx
    rcases List.mem_append.1 hx with h | h
    · exact h1 x h
    · exact h2 x h
theorem eqvP.refl (l : List (Nat × Int)) : eqvP l l := Nat.mul_comm _ _
theorem eqvP.trans {a b c : List (Nat × Int)} (hb : posN b) (h1 : eqvP a b) (h2 : eqvP b c) : eqvP a c := by
  unfold eqvP at *
  have p1 := upP_pos' hb
  have p2 := dnP_pos' hb
  have h3 : upP a * dnP b * (upP b * dnP c) = dnP a * upP b * (dnP b * upP c) := by rw [h1, h2]
  have h4 : upP a * dnP c * (dnP b * upP b) = dnP a * upP c * (dnP b * upP b) := by
    have e1 : upP a * dnP b * (upP b * dnP c) = upP a * dnP c * (dnP b * upP b) := by ac_rfl
    have e2 : dnP a * upP b * (dnP b * upP c) = dnP a * upP c * (dnP b * upP b) := by ac_rfl
    rw [← e1, ← e2]; exact h3
  exact Nat.eq_of_mul_eq_mul_right (Nat.mul_pos p2 p1) h4
theorem eqvP.sgn {a b : List (Nat × Int)} (ha : posN a) (hb : posN b) (h : eqvP a b) : sgnP a = sgnP b := by
  unfold eqvP at h
  have p1 := upP_pos' ha
  have p2 := dnP_pos' ha
  have p3 := upP_pos' hb
  have p4 := dnP_pos' hb
  rcases Nat.lt_trichotomy (upP b) (dnP b) with h1 | h1 | h1
  · rw [sgn_dn h1, sgn_dn]
    rcases Nat.lt_or_ge (upP a) (dnP a) with h2 | h2
    · exact h2
    · have h3 := Nat.mul_lt_mul_of_le_of_lt h2 h1 p1
      omega
  · rw [sgn_zero h1, sgn_zero]
    rw [h1] at h
    exact Nat.eq_of_mul_eq_mul_right p4 h
  · rw [sgn_up h1, sgn_up]
    rcases Nat.lt_or_ge (dnP a) (upP a) with h2 | h2
    · exact h2
    · have h3 := Nat.mul_lt_mul_of_le_of_lt h2 h1 p2
      omega
/-- A part of the list may be put for another one with the same product. -/
theorem eqvP.part {a a' b : List (Nat × Int)} (h : eqvP a a') : eqvP (a ++ b) (a' ++ b) := by
  unfold eqvP at *
  rw [upP_append, dnP_append, upP_append, dnP_append]
  have e1 : upP a * upP b * (dnP a' * dnP b) = upP a * dnP a' * (upP b * dnP b) := by ac_rfl
  have e2 : dnP a * dnP b * (upP a' * upP b) = dnP a * upP a' * (upP b * dnP b) := by ac_rfl
  rw [e1, e2, h]
theorem eqvP.perm {a b c : List (Nat × Int)} : eqvP (a ++ b ++ c) (b ++ (a ++ c)) := by
  unfold eqvP
  simp only [upP_append, dnP_append]
  ac_rfl
/-- The split of two powers by a common divisor. -/
theorem split_eqv (d p q : Nat) (a b : Int) : eqvP [(d * p, a), (d * q, b)] [(p, a), (q, b), (d, a + b)] := by
  unfold eqvP
  simp only [upP, dnP, Nat.mul_one, Nat.mul_pow]
  have e : d ^ a.toNat * d ^ b.toNat * d ^ (-(a + b)).toNat = d ^ (-a).toNat * d ^ (-b).toNat * d ^ (a + b).toNat := by
    rw [← Nat.pow_add, ← Nat.pow_add, ← Nat.pow_add, ← Nat.pow_add]; congr 1; omega
  have e1 : d ^ a.toNat * p ^ a.toNat * (d ^ b.toNat * q ^ b.toNat) * (p ^ (-a).toNat * (q ^ (-b).toNat * d ^ (-(a + b)).toNat)) =
      d ^ a.toNat * d ^ b.toNat * d ^ (-(a + b)).toNat * (p ^ a.toNat * q ^ b.toNat * (p ^ (-a).toNat * q ^ (-b).toNat)) := by ac_rfl
  have e2 : d ^ (-a).toNat * p ^ (-a).toNat * (d ^ (-b).toNat * q ^ (-b).toNat) * (p ^ a.toNat * (q ^ b.toNat * d ^ (a + b).toNat)) =
      d ^ (-a).toNat * d ^ (-b).toNat * d ^ (a + b).toNat * (p ^ a.toNat * q ^ b.toNat * (p ^ (-a).toNat * q ^ (-b).toNat)) := by ac_rfl
  rw [e1, e2, e]
theorem split_all {d p q : Nat} {a b : Int} (hd : 1 ≤ d) : allP [(p, a), (q, b), (d, a + b)] ≤ allP [(d * p, a), (d * q, b)] := by
  simp only [allP, Nat.mul_one, Nat.mul_pow]
  have e : d ^ (a + b).natAbs ≤ d ^ a.natAbs * d ^ b.natAbs := by
    rw [← Nat.pow_add]; exact Nat.pow_le_pow_right hd (by omega)
  have e1 : p ^ a.natAbs * (q ^ b.natAbs * d ^ (a + b).natAbs) = p ^ a.natAbs * q ^ b.natAbs * d ^ (a + b).natAbs := by ac_rfl
  have e2 : d ^ a.natAbs * p ^ a.natAbs * (d ^ b.natAbs * q ^ b.natAbs) = p ^ a.natAbs * q ^ b.natAbs * (d ^ a.natAbs * d ^ b.natAbs) := by ac_rfl
  rw [e1, e2]
  exact Nat.mul_le_mul_left _ e
theorem all_le {l : List (Nat × Int)} (hp : posN l) {x : Nat × Int} (hx : x ∈ l) : x.1 ^ x.2.natAbs ≤ allP l := by
  induction l with
  | nil => cases hx
  | cons y r ih =>
    have hr : posN r := fun z hz => hp z (by simp [hz])
    rcases List.mem_cons.1 hx with h | h
    · subst h; exact Nat.le_mul_of_pos_right _ (allP_pos hr)
    · exact Nat.le_trans (ih hr h) (Nat.le_mul_of_pos_left _ (Nat.pow_pos (hp y (by simp))))
theorem exp_le {l : List (Nat × Int)} {B : Nat} (hp : posN l) (hB : allP l ≤ 2 ^ B) {x : Nat × Int} (hx : x ∈ l) (h2 : 2 ≤ x.1) : x.2.natAbs ≤ B := by
  have h1 := Nat.le_trans (all_le hp hx) hB
  exact lt_of_two_pow (Nat.le_trans (Nat.pow_le_pow_left h2 _) h1)
/-- Numbers above 1 without common divisors, with exponents that are not 0. -/
structure Apart (l : List (Nat × Int)) : Prop where
  big : ∀ x ∈ l, 2 ≤ x.1 ∧ x.2 ≠ 0
  cop : l.Pairwise fun x y => Nat.gcd x.1 y.1 = 1
theorem cop_up {n : Nat} : ∀ {l : List (Nat × Int)}, (∀ y ∈ l, Nat.Coprime n y.1) → Nat.Coprime n (upP l)
  | [], _ => Nat.coprime_one_right n
  | y :: r, h => Nat.Coprime.mul_right ((h y (by simp)).pow_right _) (cop_up fun z hz => h z (by simp [hz]))
theorem cop_dn {n : Nat} : ∀ {l : List (Nat × Int)}, (∀ y ∈ l, Nat.Coprime n y.1) → Nat.Coprime n (dnP l)
  | [], _ => Nat.coprime_one_right n
  | y :: r, h => Nat.Coprime.mul_right ((h y (by simp)).pow_right _) (cop_dn fun z hz => h z (by simp [hz]))
theorem cop_both : ∀ {l : List (Nat × Int)}, l.Pairwise (fun x y => Nat.gcd x.1 y.1 = 1) → Nat.Coprime (upP l) (dnP l)
  | [], _ => Nat.coprime_one_right 1
  | x :: r, h => by
    obtain ⟨h1, h2⟩ := List.pairwise_cons.1 h
    have ih := cop_both h2
    show Nat.Coprime (x.1 ^ x.2.toNat * upP r) (x.1 ^ (-x.2).toNat * dnP r)
    have c1 : Nat.Coprime x.1 (upP r) := cop_up fun y hy => h1 y hy
    have c2 : Nat.Coprime x.1 (dnP r) := cop_dn fun y hy => h1 y hy
    refine Nat.Coprime.mul_left (Nat.Coprime.mul_right ?_ (c2.pow_left _)) (Nat.Coprime.mul_right ((c1.pow_left _).symm) ih)
    rcases Int.le_total 0 x.2 with h0 | h0
    · rw [show (-x.2).toNat = 0 by omega, Nat.pow_zero]; exact Nat.coprime_one_right _
    · rw [show x.2.toNat = 0 by omega, Nat.pow_zero]; exact Nat.coprime_one_left _
theorem apart_one {l : List (Nat × Int)} (h : Apart l) : sgnP l = 0 ↔ l = [] := by
  constructor
  · intro hs
    rcases l with _ | ⟨x, r⟩
    · rfl
    · exfalso
      have e : upP (x :: r) = dnP (x :: r) := by
        rcases Nat.lt_trichotomy (upP (x :: r)) (dnP (x :: r)) with h1 | h1 | h1
        · rw [sgn_dn h1] at hs; cases hs
        · exact h1
        · rw [sgn_up h1] at hs; cases hs
      have hc := cop_both h.cop
      rw [← e] at hc
      have h1 : upP (x :: r) = 1 := by
        have := Nat.coprime_self (upP (x :: r)) |>.1 hc
        exact this
      rw [h1] at e
      obtain ⟨hb, hn⟩ := h.big x (by simp)
      have hu : x.1 ^ x.2.toNat ≤ 1 := by
        rw [← h1]
        exact Nat.le_mul_of_pos_right _ (upP_pos' fun y hy => by have := (h.big y (by simp [hy])).1; omega)
      have hd : x.1 ^ (-x.2).toNat ≤ 1 := by
        rw [e]
        exact Nat.le_mul_of_pos_right _ (dnP_pos' fun y hy => by have := (h.big y (by simp [hy])).1; omega)
      have k1 : ∀ k, x.1 ^ k ≤ 1 → k = 0 := by
        intro k hk
        rcases Nat.eq_zero_or_pos k with h | h
        · exact h
        · have : x.1 ^ 1 ≤ x.1 ^ k := Nat.pow_le_pow_right (by omega) h
          rw [Nat.pow_one] at this; omega
      have := k1 _ hu
      have := k1 _ hd
      omega
  · rintro rfl; rfl
def allN : List (Nat × Int) → Nat
  | [] => 1
  | x :: r => x.1 * allN r
theorem allN_append : ∀ a b : List (Nat × Int), allN (a ++ b) = allN a * allN b
  | [], b => by simp [allN]
  | x :: r, b => by show x.1 * allN (r ++ b) = x.1 * allN r * allN b; rw [allN_append r b, Nat.mul_assoc]
theorem allN_pos : ∀ {l : List (Nat × Int)}, posN l → 0 < allN l
  | [], _ => Nat.one_pos
  | x :: r, h => Nat.mul_pos (h x (by simp)) (allN_pos fun y hy => h y (by simp [hy]))
end Go.Proofs.YtmbcejldifobnaaDoor

namespace Go.Proofs.YtmbcejldifobnaaDoor
theorem upP_snoc (l : List (Nat × Int)) (n : Nat) (a : Int) : upP (l ++ [(n, a)]) = upP l * n ^ a.toNat := by rw [upP_append]; simp [upP]
theorem dnP_snoc (l : List (Nat × Int)) (n : Nat) (a : Int) : dnP (l ++ [(n, a)]) = dnP l * n ^ (-a).toNat := by rw [dnP_append]; simp [dnP]
theorem sgn_ge {l : List (Nat × Int)} : 0 ≤ sgnP l ↔ dnP l ≤ upP l := by
  unfold sgnP
  by_cases h1 : upP l = dnP l
  · rw [if_pos h1, h1]; simp
  · rw [if_neg h1]
    by_cases h2 : dnP l < upP l
    · rw [if_pos h2]; omega
    · rw [if_neg h2]; omega
theorem sgn_lt {l : List (Nat × Int)} : sgnP l < 0 ↔ upP l < dnP l := by
  have := sgn_ge (l := l); omega
/-- A greater power of 2 makes the quotient less. -/
theorem floor_anti {l : List (Nat × Int)} {a b : Int} (h : a ≤ b) (hb : 0 ≤ sgnP (l ++ [(2, -b)])) : 0 ≤ sgnP (l ++ [(2, -a)]) := by
  rw [sgn_ge] at *
  rw [upP_snoc, dnP_snoc] at *
  have h1 : 2 ^ (- -a).toNat ≤ 2 ^ (- -b).toNat := Nat.pow_le_pow_right (by omega) (by omega)
  have h2 : 2 ^ (-b).toNat ≤ 2 ^ (-a).toNat := Nat.pow_le_pow_right (by omega) (by omega)
  exact Nat.le_trans (Nat.mul_le_mul_left _ h1) (Nat.le_trans hb (Nat.mul_le_mul_left _ h2))
/-- The place where the sign turns is one. -/
theorem floor_one {f : Int → Int} (hf : ∀ a b, a ≤ b → 0 ≤ f b → 0 ≤ f a) {m k : Int} (h1 : 0 ≤ f m) (h2 : f (m + 1) < 0) (h3 : 0 ≤ f k) (h4 : f (k + 1) < 0) : m = k := by
  rcases Int.lt_trichotomy m k with h | h | h
  · have := hf (m + 1) k (by omega) h3; omega
  · exact h
  · have := hf (k + 1) m (by omega) h1; omega
end Go.Proofs.YtmbcejldifobnaaDoor

namespace Go.Proofs.YtmbcejldifobnaaDoor
structure OneRel (l : List (Nat × Int)) (B K : Nat) (R A : List (Nat × Int)) : Prop where
  pos : posN (R ++ A)
  eqv : eqvP (R ++ A) l
  all : allP (R ++ A) ≤ 2 ^ B
  exp : ∀ x ∈ R ++ A, x.2.natAbs ≤ B
  apart : Apart A
  few : 2 ^ (R.length + A.length) * allN (R ++ A) ≤ 2 ^ K
theorem OneRel.len {l : List (Nat × Int)} {B K : Nat} {R A : List (Nat × Int)} (h : OneRel l B K R A) : R.length + A.length ≤ K := by
  have h1 := h.few
  have h2 := allN_pos h.pos
  have h3 : 2 ^ (R.length + A.length) * 1 ≤ 2 ^ (R.length + A.length) * allN (R ++ A) := Nat.mul_le_mul_left _ h2
  rw [Nat.mul_one] at h3
  exact lt_of_two_pow (Nat.le_trans h3 h1)
def oneM (K : Nat) (R A : List (Nat × Int)) : Nat := allN (R ++ A) * (K + 1) + R.length
theorem Apart.nil : Apart [] := ⟨fun x h => (by cases h), List.Pairwise.nil⟩
theorem OneRel.start {l : List (Nat × Int)} {B K : Nat} (hp : posN l) (ha : allP l ≤ 2 ^ B) (he : ∀ x ∈ l, x.2.natAbs ≤ B) (hf : 2 ^ l.length * allN l ≤ 2 ^ K) : OneRel l B K l [] := by
  refine ⟨?_, ?_, ?_, ?_, Apart.nil, ?_⟩ <;> rw [List.append_nil]
  · exact hp
  · exact eqvP.refl l
  · exact ha
  · exact he
  · exact hf
theorem OneRel.done {l : List (Nat × Int)} {B K : Nat} {A : List (Nat × Int)} (hl : posN l) (h : OneRel l B K [] A) : sgnP l = 0 ↔ A = [] := by
  have e := h.eqv
  have p := h.pos
  rw [List.nil_append] at e p
  rw [← e.sgn p hl]
  exact apart_one h.apart
/-- What counts of both lists together does not depend on the order. -/
theorem eqvP.swap {R S A C : List (Nat × Int)} (hu : upP (R ++ A) = upP (S ++ C)) (hd : dnP (R ++ A) = dnP (S ++ C)) {l : List (Nat × Int)} (h : eqvP (R ++ A) l) : eqvP (S ++ C) l := by
  unfold eqvP at *
  rw [← hu, ← hd]; exact h
theorem OneRel.drop {l : List (Nat × Int)} {B K : Nat} {R A : List (Nat × Int)} {n : Nat} {a : Int} (h : OneRel l B K (R ++ [(n, a)]) A) (hd : n = 1 ∨ a = 0) : OneRel l B K R A ∧ oneM K R A < oneM K (R ++ [(n, a)]) A := by
  have hn : 1 ≤ n := h.pos (n, a) (by simp)
  have hp : posN (R ++ A) := fun x hx => h.pos x (by
    rcases List.mem_append.1 hx with h | h
    · simp [h]
    · simp [h])
  have hN : allN (R ++ [(n, a)] ++ A) = n * allN (R ++ A) := by
    rw [allN_append, allN_append, allN_append]
    simp only [allN, Nat.mul_one]
    ac_rfl
  have hA : allP (R ++ [(n, a)] ++ A) = n ^ a.natAbs * allP (R ++ A) := by
    rw [allP_append, allP_append, allP_append]
    simp only [allP, Nat.mul_one]
    ac_rfl
  have hU : upP (R ++ [(n, a)] ++ A) = n ^ a.toNat * upP (R ++ A) := by
    rw [upP_append, upP_append, upP_append]
    simp only [upP, Nat.mul_one]
    ac_rfl
  have hD : dnP (R ++ [(n, a)] ++ A) = n ^ (-a).toNat * dnP (R ++ A) := by
    rw [dnP_append, dnP_append, dnP_append]
    simp only [dnP, Nat.mul_one]
    ac_rfl
  have h1 : n ^ a.toNat = 1 ∧ n ^ (-a).toNat = 1 := by
    rcases hd with rfl | rfl
    · exact ⟨Nat.one_pow _, Nat.one_pow _⟩
    · exact ⟨rfl, rfl⟩
  have hge : allN (R ++ A) ≤ n * allN (R ++ A) := Nat.le_mul_of_pos_left _ hn
  refine ⟨⟨hp, ?_, ?_, ?_, h.apart, ?_⟩, ?_⟩
  · have e := h.eqv
    unfold eqvP at *
    rw [hU, hD, h1.1, h1.2, Nat.one_mul, Nat.one_mul] at e
    exact e
  · have e := h.all
    rw [hA] at e
    exact Nat.le_trans (Nat.le_mul_of_pos_left _ (Nat.pow_pos hn)) e
  · intro x hx
    exact h.exp x (by
      rcases List.mem_append.1 hx with h | h
      · simp [h]
      · simp [h])
  · have e := h.few
    rw [hN, List.length_append, List.length_singleton] at e
    refine Nat.le_trans (Nat.mul_le_mul (Nat.pow_le_pow_right (by omega) (by omega)) hge) e
  · unfold oneM
    rw [hN, List.length_append, List.length_singleton]
    have := Nat.mul_le_mul_right (K + 1) hge
    omega
theorem OneRel.move {l : List (Nat × Int)} {B K : Nat} {R A : List (Nat × Int)} {n : Nat} {a : Int} (h : OneRel l B K (R ++ [(n, a)]) A) (hn : 2 ≤ n) (ha : a ≠ 0) (hc : ∀ y ∈ A, Nat.gcd n y.1 = 1) :
    OneRel l B K R (A ++ [(n, a)]) ∧ oneM K R (A ++ [(n, a)]) < oneM K (R ++ [(n, a)]) A := by
  have hmem : ∀ x, x ∈ R ++ (A ++ [(n, a)]) ↔ x ∈ R ++ [(n, a)] ++ A := by
    intro x; simp only [List.mem_append]; grind
  have hN : allN (R ++ (A ++ [(n, a)])) = allN (R ++ [(n, a)] ++ A) := by simp only [allN_append]; ac_rfl
  have hA : allP (R ++ (A ++ [(n, a)])) = allP (R ++ [(n, a)] ++ A) := by simp only [allP_append]; ac_rfl
  have hU : upP (R ++ [(n, a)] ++ A) = upP (R ++ (A ++ [(n, a)])) := by simp only [upP_append]; ac_rfl
  have hD : dnP (R ++ [(n, a)] ++ A) = dnP (R ++ (A ++ [(n, a)])) := by simp only [dnP_append]; ac_rfl
  refine ⟨⟨fun x hx => h.pos x ((hmem x).1 hx), eqvP.swap hU hD h.eqv, by rw [hA]; exact h.all, fun x hx => h.exp x ((hmem x).1 hx), ⟨?_, ?_⟩, ?_⟩, ?_⟩
  · intro x hx
    rcases List.mem_append.1 hx with h1 | h1
    · exact h.apart.big x h1
    · rw [List.mem_singleton] at h1
      subst h1
      exact ⟨hn, ha⟩
  · rw [List.pairwise_append]
    refine ⟨h.apart.cop, List.pairwise_singleton _ _, fun x hx y hy => ?_⟩
    rw [List.mem_singleton] at hy
    subst hy
    rw [Nat.gcd_comm]; exact hc x hx
  · have e := h.few
    rw [List.length_append, List.length_singleton] at e
    rw [hN, List.length_append, List.length_singleton]
    rw [show R.length + (A.length + 1) = R.length + 1 + A.length by omega]
    exact e
  · unfold oneM
    rw [hN, List.length_append, List.length_singleton]
    omega
theorem OneRel.split {l : List (Nat × Int)} {B K : Nat} {R A1 A2 : List (Nat × Int)} {n m d : Nat} {a b : Int} (h : OneRel l B K (R ++ [(n, a)]) (A1 ++ (m, b) :: A2)) (hd : d = Nat.gcd n m) (h2 : 2 ≤ d) :
    OneRel l B K (R ++ [(n / d, a), (m / d, b), (d, a + b)]) (A1 ++ A2) ∧ oneM K (R ++ [(n / d, a), (m / d, b), (d, a + b)]) (A1 ++ A2) < oneM K (R ++ [(n, a)]) (A1 ++ (m, b) :: A2) := by
  have hn : 1 ≤ n := h.pos (n, a) (by simp)
  have hm : 1 ≤ m := h.pos (m, b) (by simp)
  obtain ⟨p, hp⟩ : ∃ p, n = d * p := by rw [hd]; exact Nat.gcd_dvd_left n m
  obtain ⟨q, hq⟩ : ∃ q, m = d * q := by rw [hd]; exact Nat.gcd_dvd_right n m
  have hdp : 0 < d := by omega
  have e1 : n / d = p := by rw [hp, Nat.mul_div_cancel_left _ hdp]
  have e2 : m / d = q := by rw [hq, Nat.mul_div_cancel_left _ hdp]
  have hp1 : 1 ≤ p := by
    rcases Nat.eq_zero_or_pos p with h | h
    · rw [h] at hp; omega
    · exact h
  have hq1 : 1 ≤ q := by
    rcases Nat.eq_zero_or_pos q with h | h
    · rw [h] at hq; omega
    · exact h
  rw [e1, e2]
  clear e1 e2 hd
  subst hp hq
  have hexp1 := h.exp (d * p, a) (by simp)
  have hexp2 := h.exp (d * q, b) (by simp)
  have hpos' : posN (R ++ [(p, a), (q, b), (d, a + b)] ++ (A1 ++ A2)) := by
    intro x hx
    simp only [List.mem_append, List.mem_cons, List.not_mem_nil, or_false] at hx
    rcases hx with (h1 | rfl | rfl | rfl) | h1 | h1
    · exact h.pos x (by simp [h1])
    · exact hp1
    · exact hq1
    · exact hdp
    · exact h.pos x (by simp [h1])
    · exact h.pos x (by simp [h1])
  have hA : allP (R ++ [(p, a), (q, b), (d, a + b)] ++ (A1 ++ A2)) ≤ allP (R ++ [(d * p, a)] ++ (A1 ++ (d * q, b) :: A2)) := by
    have e1 : allP (R ++ [(p, a), (q, b), (d, a + b)] ++ (A1 ++ A2)) = allP [(p, a), (q, b), (d, a + b)] * (allP R * allP A1 * allP A2) := by simp only [allP_append]; ac_rfl
    have e2 : allP (R ++ [(d * p, a)] ++ (A1 ++ (d * q, b) :: A2)) = allP [(d * p, a), (d * q, b)] * (allP R * allP A1 * allP A2) := by
      rw [show (d * q, b) :: A2 = [(d * q, b)] ++ A2 from rfl, show [(d * p, a), (d * q, b)] = [(d * p, a)] ++ [(d * q, b)] from rfl]
      simp only [allP_append]; ac_rfl
    rw [e1, e2]
    exact Nat.mul_le_mul_right _ (split_all (by omega))
  have hN : 2 * allN (R ++ [(p, a), (q, b), (d, a + b)] ++ (A1 ++ A2)) ≤ allN (R ++ [(d * p, a)] ++ (A1 ++ (d * q, b) :: A2)) := by
    have e1 : allN (R ++ [(p, a), (q, b), (d, a + b)] ++ (A1 ++ A2)) = d * (p * q * (allN R * allN A1 * allN A2)) := by simp only [allN_append, allN, Nat.mul_one]; ac_rfl
    have e2 : allN (R ++ [(d * p, a)] ++ (A1 ++ (d * q, b) :: A2)) = d * (d * (p * q * (allN R * allN A1 * allN A2))) := by simp only [allN_append, allN, Nat.mul_one]; ac_rfl
    rw [e1, e2]
    exact Nat.mul_le_mul_right _ h2
  have hall := Nat.le_trans hA h.all
  have hNpos := allN_pos hpos'
  have hfew : 2 ^ ((R ++ [(p, a), (q, b), (d, a + b)]).length + (A1 ++ A2).length) * allN (R ++ [(p, a), (q, b), (d, a + b)] ++ (A1 ++ A2)) ≤ 2 ^ K := by
    have e := h.few
    have el : (R ++ [(p, a), (q, b), (d, a + b)]).length + (A1 ++ A2).length = (R ++ [(d * p, a)]).length + (A1 ++ (d * q, b) :: A2).length + 1 := by simp; omega
    rw [el, Nat.pow_succ, Nat.mul_assoc]
    exact Nat.le_trans (Nat.mul_le_mul_left _ hN) e
  have hrel : OneRel l B K (R ++ [(p, a), (q, b), (d, a + b)]) (A1 ++ A2) := by
    refine ⟨hpos', ?_, hall, ?_, ⟨fun x hx => h.apart.big x (by rcases List.mem_append.1 hx with h | h <;> simp [h]), ?_⟩, hfew⟩
    · have hs := split_eqv d p q a b
      have e := h.eqv
      refine eqvP.trans (b := R ++ [(d * p, a)] ++ (A1 ++ (d * q, b) :: A2)) h.pos ?_ e
      unfold eqvP at *
      have u1 : upP (R ++ [(p, a), (q, b), (d, a + b)] ++ (A1 ++ A2)) = upP [(p, a), (q, b), (d, a + b)] * (upP R * upP A1 * upP A2) := by simp only [upP_append]; ac_rfl
      have u2 : dnP (R ++ [(p, a), (q, b), (d, a + b)] ++ (A1 ++ A2)) = dnP [(p, a), (q, b), (d, a + b)] * (dnP R * dnP A1 * dnP A2) := by simp only [dnP_append]; ac_rfl
      have u3 : upP (R ++ [(d * p, a)] ++ (A1 ++ (d * q, b) :: A2)) = upP [(d * p, a), (d * q, b)] * (upP R * upP A1 * upP A2) := by
        rw [show (d * q, b) :: A2 = [(d * q, b)] ++ A2 from rfl, show [(d * p, a), (d * q, b)] = [(d * p, a)] ++ [(d * q, b)] from rfl]
        simp only [upP_append]; ac_rfl
      have u4 : dnP (R ++ [(d * p, a)] ++ (A1 ++ (d * q, b) :: A2)) = dnP [(d * p, a), (d * q, b)] * (dnP R * dnP A1 * dnP A2) := by
        rw [show (d * q, b) :: A2 = [(d * q, b)] ++ A2 from rfl, show [(d * p, a), (d * q, b)] = [(d * p, a)] ++ [(d * q, b)] from rfl]
        simp only [dnP_append]; ac_rfl
      rw [u1, u2, u3, u4]
      generalize upP R * upP A1 * upP A2 = X
      generalize dnP R * dnP A1 * dnP A2 = Y
      have f1 : upP [(p, a), (q, b), (d, a + b)] * X * (dnP [(d * p, a), (d * q, b)] * Y) = dnP [(d * p, a), (d * q, b)] * upP [(p, a), (q, b), (d, a + b)] * (X * Y) := by ac_rfl
      have f2 : dnP [(p, a), (q, b), (d, a + b)] * Y * (upP [(d * p, a), (d * q, b)] * X) = upP [(d * p, a), (d * q, b)] * dnP [(p, a), (q, b), (d, a + b)] * (X * Y) := by ac_rfl
      rw [f1, f2, hs]
    · intro x hx
      have hx0 := hx
      simp only [List.mem_append, List.mem_cons, List.not_mem_nil, or_false] at hx
      rcases hx with (h1 | rfl | rfl | rfl) | h1 | h1
      · exact h.exp x (by simp [h1])
      · exact hexp1
      · exact hexp2
      · exact exp_le hpos' hall hx0 h2
      · exact h.exp x (by simp [h1])
      · exact h.exp x (by simp [h1])
    · have hc := h.apart.cop
      rw [List.pairwise_append] at hc ⊢
      obtain ⟨c1, c2, c3⟩ := hc
      exact ⟨c1, (List.pairwise_cons.1 c2).2, fun x hx y hy => c3 x hx y (by simp [hy])⟩
  refine ⟨hrel, ?_⟩
  have hlen := hrel.len
  have hlen' : (R ++ [(p, a), (q, b), (d, a + b)]).length ≤ K := by omega
  unfold oneM
  generalize allN (R ++ [(p, a), (q, b), (d, a + b)] ++ (A1 ++ A2)) = x at *
  generalize allN (R ++ [(d * p, a)] ++ (A1 ++ (d * q, b) :: A2)) = y at *
  generalize (R ++ [(p, a), (q, b), (d, a + b)]).length = r at *
  have h3 : (x + 1) * (K + 1) ≤ y * (K + 1) := Nat.mul_le_mul_right _ (by omega)
  rw [Nat.add_mul] at h3
  omega
end Go.Proofs.YtmbcejldifobnaaDoor

namespace Go.Proofs.YtmbcejldifobnaaDoor
def bitS (K j : Nat) : List (Nat × Int) → Int
  | [] => 0
  | x :: r => (if sqB (2 ^ K) (tmM K x.1 j) then x.2 else 0) + bitS K j r
theorem sumE_succ (K j : Nat) : ∀ l, sumE K (j + 1) l = 2 * sumE K j l + bitS K j l
  | [] => rfl
  | x :: r => by
    show x.2 * (tmE K x.1 (j + 1) : Int) + sumE K (j + 1) r = 2 * (x.2 * (tmE K x.1 j : Int) + sumE K j r) + ((if sqB (2 ^ K) (tmM K x.1 j) then x.2 else 0) + bitS K j r)
    rw [sumE_succ K j r]
    have e : tmE K x.1 (j + 1) = 2 * tmE K x.1 j + (if sqB (2 ^ K) (tmM K x.1 j) then 1 else 0) := rfl
    rw [e]
    by_cases hb : sqB (2 ^ K) (tmM K x.1 j) = true
    · rw [if_pos hb, if_pos hb, Int.natCast_add, Int.natCast_mul, Int.mul_add]
      have : x.2 * (((2 : Nat) : Int) * (tmE K x.1 j : Int)) = 2 * (x.2 * (tmE K x.1 j : Int)) := by
        rw [show (((2 : Nat) : Int)) = 2 from rfl, ← Int.mul_assoc, Int.mul_comm x.2 2, Int.mul_assoc]
      rw [this]
      simp only [Int.natCast_one, Int.mul_one]
      omega
    · rw [if_neg hb, if_neg hb, Nat.add_zero, Int.natCast_mul]
      have : x.2 * (((2 : Nat) : Int) * (tmE K x.1 j : Int)) = 2 * (x.2 * (tmE K x.1 j : Int)) := by
        rw [show (((2 : Nat) : Int)) = 2 from rfl, ← Int.mul_assoc, Int.mul_comm x.2 2, Int.mul_assoc]
      rw [this]
      omega
theorem absA_nonneg : ∀ l, 0 ≤ absA l
  | [] => Int.le_refl 0
  | x :: r => by
    have := absA_nonneg r
    show 0 ≤ max x.2 (-x.2) + absA r
    omega
theorem absA_append : ∀ a b, absA (a ++ b) = absA a + absA b
  | [], b => by simp [absA]
  | x :: r, b => by show max x.2 (-x.2) + absA (r ++ b) = max x.2 (-x.2) + absA r + absA b; rw [absA_append r b]; omega
theorem bitS_append (K j : Nat) : ∀ a b, bitS K j (a ++ b) = bitS K j a + bitS K j b
  | [], b => by simp [bitS]
  | x :: r, b => by show _ + bitS K j (r ++ b) = _ + bitS K j r + bitS K j b; rw [bitS_append K j r b]; omega
theorem sumE_append (K j : Nat) : ∀ a b, sumE K j (a ++ b) = sumE K j a + sumE K j b
  | [], b => by simp [sumE]
  | x :: r, b => by show _ + sumE K j (r ++ b) = _ + sumE K j r + sumE K j b; rw [sumE_append K j r b]; omega
theorem bitS_le (K j : Nat) : ∀ l, -absA l ≤ bitS K j l ∧ bitS K j l ≤ absA l
  | [] => ⟨Int.le_refl 0, Int.le_refl 0⟩
  | x :: r => by
    have := bitS_le K j r
    show -(max x.2 (-x.2) + absA r) ≤ (if _ then x.2 else 0) + bitS K j r ∧ (if _ then x.2 else 0) + bitS K j r ≤ max x.2 (-x.2) + absA r
    split <;> omega
theorem absA_take (l : List (Nat × Int)) (i : Nat) : absA (l.take i) ≤ absA l := by
  have h := absA_append (l.take i) (l.drop i)
  rw [List.take_append_drop] at h
  have := absA_nonneg (l.drop i)
  omega
/-- The sum while a round goes on stays in its bounds. -/
theorem round_le {K j i : Nat} {l : List (Nat × Int)} (h1 : -(2 * absA l) ≤ sumE K j l) (h2 : sumE K j l ≤ 2 * absA l) :
    -(5 * absA l) ≤ 2 * sumE K j l + bitS K j (l.take i) ∧ 2 * sumE K j l + bitS K j (l.take i) ≤ 5 * absA l := by
  have h3 := bitS_le K j (l.take i)
  have h4 := absA_take l i
  omega
def EstPost (W : Nat) (l : List (Nat × Int)) (r : Int) : Prop :=
  (r = 1 ∧ ∃ j, j + 2 ≤ 64 * W ∧ 2 * absA l < sumE (64 * W - 1) j l) ∨ (r = -1 ∧ ∃ j, j + 2 ≤ 64 * W ∧ sumE (64 * W - 1) j l < -(2 * absA l)) ∨
  (r = 0 ∧ ∀ j, j + 2 ≤ 64 * W → -(2 * absA l) ≤ sumE (64 * W - 1) j l ∧ sumE (64 * W - 1) j l ≤ 2 * absA l)
theorem est_sound {W : Nat} {l : List (Nat × Int)} {r : Int} (hg : goodN (64 * W - 1) l) (h : EstPost W l r) (h0 : r ≠ 0) : r = sgnP l := by
  rcases h with ⟨rfl, j, hj, h⟩ | ⟨rfl, j, hj, h⟩ | ⟨rfl, -⟩
  · exact (sgn_up (sum_up (by omega) hg h)).symm
  · exact (sgn_dn (sum_dn (by omega) hg h)).symm
  · exact absurd rfl h0
/-- With words enough the sign is found. -/
theorem est_total {W : Nat} {l : List (Nat × Int)} {r : Int} (hW : 1 ≤ W) (hg : goodN (64 * W - 1) l) (h : EstPost W l r) (hs : sgnP l ≠ 0) (hq : min (upP l) (dnP l) * (4 * (upA l + dnA l) + 1) ≤ 2 ^ (64 * W - 2)) : r ≠ 0 := by
  rintro rfl
  rcases h with ⟨h, -⟩ | ⟨h, -⟩ | ⟨-, h⟩
  · cases h
  · cases h
  · obtain ⟨h1, h2⟩ := h (64 * W - 2) (by omega)
    rcases Nat.lt_trichotomy (upP l) (dnP l) with h3 | h3 | h3
    · rw [Nat.min_eq_left (Nat.le_of_lt h3)] at hq
      have := sum_found_dn (K := 64 * W - 1) (j := 64 * W - 2) (by omega) hg h3 hq
      omega
    · exact hs (sgn_zero h3)
    · rw [Nat.min_eq_right (Nat.le_of_lt h3)] at hq
      have := sum_found_up (K := 64 * W - 1) (j := 64 * W - 2) (by omega) hg h3 hq
      omega
theorem est_zero {W : Nat} {l : List (Nat × Int)} {r : Int} (hg : goodN (64 * W - 1) l) (h : EstPost W l r) (hs : sgnP l = 0) : r = 0 := by
  by_cases h0 : r = 0
  · exact h0
  · rw [est_sound hg h h0]; exact hs
end Go.Proofs.YtmbcejldifobnaaDoor

namespace Go.Proofs.YtmbcejldifobnaaDoor
def wA : List (Nat × Int) → Nat
  | [] => 0
  | x :: r => x.2.natAbs * Nat.log2 x.1 + wA r
def nA : List (Nat × Int) → Nat
  | [] => 0
  | x :: r => x.2.natAbs + nA r
theorem absA_nA : ∀ l, absA l = (nA l : Int)
  | [] => rfl
  | x :: r => by show max x.2 (-x.2) + absA r = ((x.2.natAbs + nA r : Nat) : Int); rw [absA_nA r]; omega
theorem nA_parts : ∀ l, upA l + dnA l = nA l
  | [] => rfl
  | x :: r => by
    have := nA_parts r
    show x.2.toNat + upA r + ((-x.2).toNat + dnA r) = x.2.natAbs + nA r
    omega
theorem allP_le : ∀ {l : List (Nat × Int)}, posN l → allP l ≤ 2 ^ (wA l + nA l)
  | [], _ => Nat.le_refl 1
  | x :: r, h => by
    have ih := allP_le (l := r) fun y hy => h y (by simp [hy])
    have hx : x.1 ≤ 2 ^ (Nat.log2 x.1 + 1) := Nat.le_of_lt Nat.lt_log2_self
    show x.1 ^ x.2.natAbs * allP r ≤ 2 ^ (x.2.natAbs * Nat.log2 x.1 + wA r + (x.2.natAbs + nA r))
    have e : x.2.natAbs * Nat.log2 x.1 + wA r + (x.2.natAbs + nA r) = (Nat.log2 x.1 + 1) * x.2.natAbs + (wA r + nA r) := by
      rw [Nat.add_mul, Nat.mul_comm x.2.natAbs]; omega
    rw [e, Nat.pow_add, Nat.pow_mul]
    exact Nat.mul_le_mul (Nat.pow_le_pow_left hx _) ih
theorem allP_parts : ∀ l, upP l * dnP l = allP l
  | [] => rfl
  | x :: r => by
    have ih := allP_parts r
    show x.1 ^ x.2.toNat * upP r * (x.1 ^ (-x.2).toNat * dnP r) = x.1 ^ x.2.natAbs * allP r
    rw [← ih]
    have e : x.1 ^ x.2.natAbs = x.1 ^ x.2.toNat * x.1 ^ (-x.2).toNat := by rw [← Nat.pow_add]; congr 1; omega
    rw [e]; ac_rfl
theorem min_le_all {l : List (Nat × Int)} (hp : posN l) : min (upP l) (dnP l) ≤ allP l := by
  rw [← allP_parts]
  exact Nat.le_trans (Nat.min_le_left _ _) (Nat.le_mul_of_pos_right _ (dnP_pos' hp))
theorem sum0_le (K : Nat) : ∀ (l : List (Nat × Int)) (i : Nat), -(wA l : Int) ≤ sumE K 0 (l.take i) ∧ sumE K 0 (l.take i) ≤ (wA l : Int)
  | [], i => by rw [List.take_nil]; exact ⟨Int.le_refl 0, Int.le_refl 0⟩
  | x :: r, 0 => by
    rw [List.take_zero]
    show -(wA (x :: r) : Int) ≤ 0 ∧ 0 ≤ (wA (x :: r) : Int)
    omega
  | x :: r, i + 1 => by
    have ih := sum0_le K r i
    rw [List.take_succ_cons]
    show -((x.2.natAbs * Nat.log2 x.1 + wA r : Nat) : Int) ≤ x.2 * (Nat.log2 x.1 : Int) + sumE K 0 (r.take i) ∧ x.2 * (Nat.log2 x.1 : Int) + sumE K 0 (r.take i) ≤ ((x.2.natAbs * Nat.log2 x.1 + wA r : Nat) : Int)
    have h1 : x.2 * (Nat.log2 x.1 : Int) ≤ ((x.2.natAbs * Nat.log2 x.1 : Nat) : Int) := by
      rw [Int.natCast_mul]
      exact Int.mul_le_mul_of_nonneg_right (by omega) (by omega)
    have h2 : -((x.2.natAbs * Nat.log2 x.1 : Nat) : Int) ≤ x.2 * (Nat.log2 x.1 : Int) := by
      rw [Int.natCast_mul, ← Int.neg_mul]
      exact Int.mul_le_mul_of_nonneg_right (by omega) (by omega)
    omega
/-- What sign asks of its list; k: so many doublings of the words are enough. -/
structure SignOk (l : List (Nat × Int)) (k : Nat) : Prop where
  n : ∀ x ∈ l, 1 ≤ x.1 ∧ x.1 < 4611686018427387904
  a : nA l ≤ 1200000000000000000
  w : wA l ≤ 7900000000000000000
  len : l.length ≤ 1000
  fin : min (upP l) (dnP l) * (4 * nA l + 1) ≤ 2 ^ (64 * 2 ^ k - 2)
  k : k ≤ 44
theorem SignOk.pos {l : List (Nat × Int)} {k : Nat} (h : SignOk l k) : posN l := fun x hx => (h.n x hx).1
theorem log2_lt62 {n : Nat} (h0 : 1 ≤ n) (h : n < 4611686018427387904) : Nat.log2 n ≤ 61 := by
  have h1 : 2 ^ Nat.log2 n ≤ n := Nat.log2_self_le (by omega)
  have h2 : 2 ^ Nat.log2 n < 2 ^ 62 := Nat.lt_of_le_of_lt h1 h
  have := (Nat.pow_lt_pow_iff_right (a := 2) (by omega)).1 h2
  omega
theorem SignOk.good {l : List (Nat × Int)} {k W : Nat} (h : SignOk l k) (hW : 1 ≤ W) : goodN (64 * W - 1) l := fun x hx => by
  obtain ⟨h1, h2⟩ := h.n x hx
  exact ⟨h1, by have := log2_lt62 h1 h2; omega⟩
theorem SignOk.all {l : List (Nat × Int)} {k B : Nat} (h : SignOk l k) (hB : 9100000000000000000 ≤ B) : allP l ≤ 2 ^ B := by
  have h1 := allP_le h.pos
  have h2 := h.a
  have h3 := h.w
  have h4 : wA l + nA l ≤ B := by omega
  exact Nat.le_trans h1 (Nat.pow_le_pow_right (by omega) h4)
theorem nA_mem {l : List (Nat × Int)} {x : Nat × Int} (h : x ∈ l) : x.2.natAbs ≤ nA l := by
  induction l with
  | nil => cases h
  | cons y r ih =>
    show x.2.natAbs ≤ y.2.natAbs + nA r
    rcases List.mem_cons.1 h with h | h
    · subst h; omega
    · have := ih h; omega
theorem SignOk.enough {l : List (Nat × Int)} {k W : Nat} {r : Int} (h : SignOk l k) (hW : 2 ^ k ≤ W) (hr : EstPost W l r) (hs : sgnP l ≠ 0) : r ≠ 0 := by
  have hp : 0 < 2 ^ k := Nat.pow_pos (by omega)
  refine est_total (by omega) (h.good (by omega)) hr hs ?_
  rw [nA_parts]
  exact Nat.le_trans h.fin (Nat.pow_le_pow_right (by omega) (by omega))
theorem allN_le : ∀ {l : List (Nat × Int)}, (∀ x ∈ l, 1 ≤ x.1 ∧ x.1 < 4611686018427387904) → allN l ≤ 2 ^ (62 * l.length)
  | [], _ => Nat.le_refl 1
  | x :: r, h => by
    have ih := allN_le (l := r) fun y hy => h y (by simp [hy])
    show x.1 * allN r ≤ 2 ^ (62 * (r.length + 1))
    rw [Nat.mul_add, Nat.mul_one, Nat.pow_add, Nat.mul_comm]
    exact Nat.mul_le_mul ih (Nat.le_of_lt (h x (by simp)).2)
theorem SignOk.few {l : List (Nat × Int)} {k K : Nat} (h : SignOk l k) (hK : 63000 ≤ K) : 2 ^ l.length * allN l ≤ 2 ^ K := by
  have h1 := allN_le h.n
  have h2 := h.len
  calc 2 ^ l.length * allN l ≤ 2 ^ l.length * 2 ^ (62 * l.length) := Nat.mul_le_mul_left _ h1
    _ = 2 ^ (l.length + 62 * l.length) := (Nat.pow_add _ _ _).symm
    _ ≤ 2 ^ K := Nat.pow_le_pow_right (by omega) (by omega)
theorem SignOk.one {l : List (Nat × Int)} {k B K : Nat} (h : SignOk l k) (hB : 9100000000000000000 ≤ B) (hK : 63000 ≤ K) : OneRel l B K l [] :=
  OneRel.start h.pos (h.all hB) (fun x hx => by have := nA_mem hx; have := h.a; omega) (h.few hK)
end Go.Proofs.YtmbcejldifobnaaDoor

namespace Go.Proofs.YtmbcejldifobnaaDoor
theorem wA_append : ∀ a b, wA (a ++ b) = wA a + wA b
  | [], b => by simp [wA]
  | x :: r, b => by show _ + wA (r ++ b) = _ + wA r + wA b; rw [wA_append r b]; omega
theorem nA_append : ∀ a b, nA (a ++ b) = nA a + nA b
  | [], b => by simp [nA]
  | x :: r, b => by show _ + nA (r ++ b) = _ + nA r + nA b; rw [nA_append r b]; omega
theorem up_le_all {l : List (Nat × Int)} (hp : posN l) : upP l ≤ allP l := by
  rw [← allP_parts]; exact Nat.le_mul_of_pos_right _ (dnP_pos' hp)
theorem dn_le_all {l : List (Nat × Int)} (hp : posN l) : dnP l ≤ allP l := by
  rw [← allP_parts]; exact Nat.le_mul_of_pos_left _ (upP_pos' hp)
theorem min_snoc {l : List (Nat × Int)} (hp : posN l) (n : Nat) (a : Int) : min (upP (l ++ [(n, a)])) (dnP (l ++ [(n, a)])) ≤ allP l := by
  rw [upP_snoc, dnP_snoc]
  rcases Int.le_total 0 a with h | h
  · rw [show (-a).toNat = 0 by omega, Nat.pow_zero, Nat.mul_one]
    exact Nat.le_trans (Nat.min_le_right _ _) (dn_le_all hp)
  · rw [show a.toNat = 0 by omega, Nat.pow_zero, Nat.mul_one]
    exact Nat.le_trans (Nat.min_le_left _ _) (up_le_all hp)
theorem fin_of {m a b w k : Nat} (h1 : m ≤ 2 ^ a) (h2 : b ≤ 2 ^ w) (h3 : a + w ≤ 64 * 2 ^ k - 2) : m * b ≤ 2 ^ (64 * 2 ^ k - 2) :=
  calc m * b ≤ 2 ^ a * 2 ^ w := Nat.mul_le_mul h1 h2
    _ = 2 ^ (a + w) := (Nat.pow_add _ _ _).symm
    _ ≤ 2 ^ (64 * 2 ^ k - 2) := Nat.pow_le_pow_right (by omega) h3
/-- A list as it is. -/
theorem SignOk.of {l : List (Nat × Int)} {k : Nat} (hn : ∀ x ∈ l, 1 ≤ x.1 ∧ x.1 < 4611686018427387904) (ha : nA l ≤ 250000000000000000) (hw : wA l ≤ 7900000000000000000) (hl : l.length ≤ 1000) (hk : k ≤ 44) (hf : wA l + nA l + 60 ≤ 64 * 2 ^ k - 2) : SignOk l k := by
  have hp : posN l := fun x hx => (hn x hx).1
  refine ⟨hn, by omega, hw, hl, fin_of (Nat.le_trans (min_le_all hp) (allP_le hp)) (w := 60) ?_ hf, hk⟩
  have : (2 : Nat) ^ 60 = 1152921504606846976 := by decide
  omega
/-- A list with one power more at its end. -/
theorem SignOk.snoc {l : List (Nat × Int)} {k n : Nat} {a : Int} (hn : ∀ x ∈ l, 1 ≤ x.1 ∧ x.1 < 4611686018427387904) (h1 : 1 ≤ n) (h2 : n < 4611686018427387904)
    (ha : nA l + a.natAbs ≤ 250000000000000000) (hw : wA l + a.natAbs * Nat.log2 n ≤ 7900000000000000000) (hl : l.length < 1000) (hk : k ≤ 44) (hf : wA l + nA l + 60 ≤ 64 * 2 ^ k - 2) : SignOk (l ++ [(n, a)]) k := by
  have hp : posN l := fun x hx => (hn x hx).1
  have e1 : nA (l ++ [(n, a)]) = nA l + a.natAbs := by rw [nA_append]; rfl
  have e2 : wA (l ++ [(n, a)]) = wA l + a.natAbs * Nat.log2 n := by rw [wA_append]; rfl
  refine ⟨?_, by omega, by omega, by simp; omega, ?_, hk⟩
  · intro x hx
    rcases List.mem_append.1 hx with h | h
    · exact hn x h
    · rw [List.mem_singleton] at h
      subst h
      exact ⟨h1, h2⟩
  · refine fin_of (Nat.le_trans (min_snoc hp n a) (allP_le hp)) (w := 60) ?_ hf
    have : (2 : Nat) ^ 60 = 1152921504606846976 := by decide
    omega
theorem log2_le {n k : Nat} (h0 : 1 ≤ n) (h : n < 2 ^ (k + 1)) : Nat.log2 n ≤ k := by
  have h1 : 2 ^ Nat.log2 n ≤ n := Nat.log2_self_le (by omega)
  have := (Nat.pow_lt_pow_iff_right (a := 2) (by omega)).1 (Nat.lt_of_le_of_lt h1 h)
  omega
/-- Sums over a list of numbers and exponents in their ranges. -/
theorem sums_le {N e w : Nat} (hN : N < 2 ^ (w + 1)) : ∀ {l : List (Nat × Int)}, (∀ x ∈ l, 1 ≤ x.1 ∧ x.1 ≤ N ∧ x.2.natAbs ≤ e) → nA l ≤ l.length * e ∧ wA l ≤ l.length * (e * w)
  | [], _ => ⟨Nat.zero_le _, Nat.zero_le _⟩
  | x :: r, h => by
    obtain ⟨i1, i2⟩ := sums_le hN (l := r) fun y hy => h y (by simp [hy])
    obtain ⟨h1, h2, h3⟩ := h x (by simp)
    have h4 := log2_le h1 (Nat.lt_of_le_of_lt h2 hN)
    constructor
    · show x.2.natAbs + nA r ≤ (r.length + 1) * e
      rw [Nat.add_mul]; omega
    · show x.2.natAbs * Nat.log2 x.1 + wA r ≤ (r.length + 1) * (e * w)
      rw [Nat.add_mul]
      have := Nat.mul_le_mul h3 h4
      omega
/-- What Sign accepts. -/
def validL (l : List (Nat × Int)) : Prop := l.length ≤ 16 ∧ ∀ x ∈ l, 1 ≤ x.1 ∧ x.1 ≤ 1000000000000 ∧ x.2.natAbs ≤ 1000000000
theorem validL.ok {l : List (Nat × Int)} (h : validL l) : SignOk l 34 := by
  obtain ⟨h1, h2⟩ := h
  obtain ⟨s1, s2⟩ := sums_le (N := 1000000000000) (e := 1000000000) (w := 39) (by decide) h2
  have h3 : nA l ≤ 16000000000 := Nat.le_trans s1 (Nat.le_trans (Nat.mul_le_mul_right _ h1) (by decide))
  have h4 : wA l ≤ 624000000000 := Nat.le_trans s2 (Nat.le_trans (Nat.mul_le_mul_right _ h1) (by decide))
  refine SignOk.of (fun x hx => ⟨(h2 x hx).1, by have := (h2 x hx).2.1; omega⟩) (by omega) (by omega) (by omega) (by omega) ?_
  have : (64 : Nat) * 2 ^ 34 - 2 = 1099511627774 := by decide
  omega
end Go.Proofs.YtmbcejldifobnaaDoor
