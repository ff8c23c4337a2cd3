import Derived.Test.YtlmcafcebidliaaDoorKR4
namespace Go.Proofs.YtlmcafcebidliaaDoor
open Go.RowKit

set_option maxRecDepth 100000 in
theorem rPrimes_any (w : World) : Calls Tryd.prog 59 #[] w fun e w' => e = .returned (.slice (some ⟨w.heap.size, 0, none⟩) 6 6) ∧ RowI w' w.heap.size 2 psI ∧ Below w.heap.size w w' := by
  have hr := RowI.of_alloc w 2 psI
  have HR := Lib.hid (show RowI (w.alloc (.cells #[.int .i64 2, .int .i64 3, .int .i64 5, .int .i64 7, .int .i64 11, .int .i64 13] 2)) w.heap.size 2 psI from hr)
  have HB := Lib.hid (belA w (.cells #[.int .i64 2, .int .i64 3, .int .i64 5, .int .i64 7, .int .i64 11, .int .i64 13] 2))
  clear hr
  go_enter Tryd.func59, Tryd.ntmps59
  go_wp2
  go_ret
  exact ⟨rfl, HR.out, HB.out⟩
def TrRel (w : World) (W2 : World) (g : Nat) (X : List Int) (xd : Int) (v iv : Value) (wr : World) : Prop :=
  ∃ i : Nat, i ≤ 6 ∧ iv = .int .i64 (i : Int) ∧ RowT wr W2.heap.size v (nz (ps6.zip (X.take i))) ∧ Below W2.heap.size W2 wr
set_option maxRecDepth 100000 in
set_option maxHeartbeats 4000000 in
theorem rTerms_any (x0 x1 x2 x3 x4 x5 xd : Int) (w : World) :
    Calls Tryd.prog 42 #[.agg #[.int .i64 x0, .int .i64 x1, .int .i64 x2, .int .i64 x3, .int .i64 x4, .int .i64 x5, .int .i64 xd]] w (TePost w ⟨⟨x0, x1, x2, x3, x4, x5⟩, xd⟩) := by
  have hcx := fun W => rCheck_any x0 x1 x2 x3 x4 x5 xd W
  have hCt : ∀ e w', TePost w ⟨⟨x0, x1, x2, x3, x4, x5⟩, xd⟩ e w' = ((Rt.err ⟨⟨x0, x1, x2, x3, x4, x5⟩, xd⟩ = 0 ∧ ∃ v, e = .returned (.tuple #[v, .int .i64 xd, .int .i64 0]) ∧ RowT w' w.heap.size v (nz (V6.zl ⟨x0, x1, x2, x3, x4, x5⟩)) ∧ Below w.heap.size w w') ∨ (Rt.err ⟨⟨x0, x1, x2, x3, x4, x5⟩, xd⟩ ≠ 0 ∧ e = .returned (.tuple #[.slice none 0 0, .int .i64 0, .int .i64 (Rt.err ⟨⟨x0, x1, x2, x3, x4, x5⟩, xd⟩)]) ∧ Below w.heap.size w w')) := fun _ _ => rfl
  have HCT := Lib.hid hCt
  clear hCt
  generalize TePost w ⟨⟨x0, x1, x2, x3, x4, x5⟩, xd⟩ = Post at *
  generalize hee : Rt.err ⟨⟨x0, x1, x2, x3, x4, x5⟩, xd⟩ = E at *
  have HCX := Lib.hid hcx
  clear hee hcx
  have HR := Lib.hid (RowI.of_alloc w 40 [x0, x1, x2, x3, x4, x5, xd])
  have HB0 := Lib.hid (belA w (.cells #[.int .i64 x0, .int .i64 x1, .int .i64 x2, .int .i64 x3, .int .i64 x4, .int .i64 x5, .int .i64 xd] 40))
  go_enter Tryd.func42, Tryd.ntmps42
  go_wp2_with fail
  refine (HCX.out _).mono ?_
  rintro e w1 ⟨he, hb1⟩
  subst he
  have hr := HR.out.up hb1
  have hb := HB0.out.trans (hb1.mono (by simp))
  clear HR HB0 hb1 HCX
  have HR := Lib.hid hr
  have HB := Lib.hid hb
  have hz := hb.size
  clear hr hb
  by_cases hE0 : E = 0
  case neg =>
    have hEb : (E != 0) = true := by simp [hE0]
    have HE0 := Lib.hid hE0
    clear hE0
    go_wp2
    go_ret3
    rw [HCT.out]
    exact .inr ⟨HE0.out, rfl, HB.out⟩
  subst hE0
  go_wp2_with fail
  refine (rPrimes_any _).mono ?_
  rintro e w2 ⟨he, hpr, hb2⟩
  subst he
  have hr := HR.out.up hb2
  have hb := HB.out.trans (hb2.mono hz)
  have hlt := HR.out.lt
  have hltp := hpr.lt
  clear HR HB
  generalize hg : w1.heap.size = g at *
  clear hg
  have HR := Lib.hid hr
  have HB := Lib.hid hb
  have HP := Lib.hid hpr
  have hz2 := hb.size
  clear hr hb hpr hb2
  go_wp2
  go_loopw [6, 8] (fun v iv wr => TrRel w w2 g [x0, x1, x2, x3, x4, x5] xd v iv wr) (fun _ iv _ => 6 - (intOf iv).toNat)
  case atStart => exact ⟨0, Nat.zero_le _, rfl, RowT.nil _ _, Below.refl _ _⟩
  case round =>
    obtain ⟨i, hi, rfl, hrow, hb⟩ := hrel
    have HROW := Lib.hid hrow
    have hrr := HR.out.up hb
    have hpp := HP.out.up hb
    have HB2 := Lib.hid hb
    have HRR := Lib.hid hrr
    clear hrow hrr hb
    by_cases hil : i < 6
    · obtain ⟨n, hn⟩ : ∃ n, [x0, x1, x2, x3, x4, x5][i]? = some n := ⟨[x0, x1, x2, x3, x4, x5][i], List.getElem?_eq_getElem _⟩
      obtain ⟨p, hpi⟩ : ∃ p, psI[i]? = some p := ⟨psI[i]'(by simpa [psI] using hil), List.getElem?_eq_getElem _⟩
      have hpc := hpp.cell hpi
      obtain ⟨q, rfl, hq, hq2, hq3⟩ := psI_nat i p hpi
      have k0 := HRR.out.cell (at7 (d := xd) hn)
      have hilI : (i : Int) < 6 := by omega
      have hiI : (0 : Int) ≤ (i : Int) := by omega
      have hzt := zip_take hq hn
      have HZT := Lib.hid hzt
      have hle : (nz (ps6.zip ([x0, x1, x2, x3, x4, x5].take i))).length ≤ 6 := by
        refine Nat.le_trans (nz_len _) ?_
        rw [List.length_zip, List.length_take]
        have : ps6.length = 6 := rfl
        omega
      clear hpp hpi hq hzt hn
      by_cases h0 : n = 0
      · subst h0
        go_wp2
        refine ⟨⟨i + 1, by omega, by go_num, ?_, HB2.out⟩, by simp [intOf]; omega⟩
        rw [HZT.out, nz_append]
        have : nz [(q, (0 : Int))] = [] := rfl
        rw [this, List.append_nil]
        exact HROW.out
      · have h0b : (n != 0) = true := by simp [h0]
        have HN0 := Lib.hid h0
        have hsz := HB2.out.size
        have hrow2 := fun (W : World) (hW : Below wr.heap.size wr W) => HROW.out.up hW
        have HROW2 := Lib.hid hrow2
        obtain ⟨bA, capA, rfl, hcA, hmA, hfA⟩ := HROW.out.form
        have HFA := Lib.hid hfA
        clear hfA h0 hrow2
        obtain ⟨i0, hi0, hz0, hz1, hz2'⟩ := info_parts Tryd.infoT
        have hgne : ∀ k, (Value.slice bA (nz (ps6.zip ([x0, x1, x2, x3, x4, x5].take i))).length capA).ownBlock = some k → w2.heap.size ≤ k := fun k hk => by
          rcases HFA.out with ⟨rfl, -, -⟩ | ⟨g', rfl, hg, -, -⟩
          · cases hk
          · cases hk; exact hg
        have HGN := Lib.hid hgne
        have hlw : w.heap.size < wr.heap.size := by omega
        have hgw : g < wr.heap.size := by omega
        have kp : ∀ (o : Obj) (a : Addr), a.block < wr.heap.size → (wr.drew.alloc o).cell? a = wr.cell? a := fun o a ha => (((Below.refl _ wr).drew).alloc (Nat.le_refl _) o).cell ha
        have KP := Lib.hid kp
        have hdd : ∀ o : Obj, Below wr.heap.size wr (wr.drew.alloc o) := fun o => ((Below.refl _ wr).drew).alloc (Nat.le_refl _) o
        have HDD := Lib.hid hdd
        clear hgne kp hdd
        generalize hL : (nz (ps6.zip ([x0, x1, x2, x3, x4, x5].take i))).length = L at *
        have HL := Lib.hid hL
        clear hL
        go_wp2
        go_region_held3 (fun w' => w'.cell? ⟨w.heap.size, i, none⟩ = some (.int .i64 n) ∧ w'.cell? ⟨g, i, none⟩ = some (.int .i64 (q : Int)))
          (first
            | (refine ⟨?_, ?_⟩ <;> with_reducible assumption)
            | exact ⟨(KP.out _ _ hlw).trans k0, (KP.out _ _ hgw).trans hpc⟩
            | exact ⟨p0, p1⟩
            | go_keep)
          ((refine step_append_lies _ (by rfl) _ _ _ (by rfl) w2.heap.size 88 i0 _ 2 16 Tryd.underlying72 hi0 hz0 hz1 hz2' rfl (by omega) (.slice bA L capA) L (encT (nz (ps6.zip ([x0, x1, x2, x3, x4, x5].take i)))) (by rfl) (by have h := HROW2.out _ (HDD.out (.cells #[.int .i64 (q : Int), .int .i64 n] 88)); unfold RowT at h; rw [HL.out] at h; exact h) ⟨wr.heap.size, 0, none⟩ 1 1 (encT [(q, n)]) (by rfl) (by rfl) (World.news_of_block (cs := #[.int .i64 (q : Int), .int .i64 n]) (t := 88) (fr := (0, 0)) (heap_alloc_new wr.drew _)) (one_encT _) (by omega) (by unfold maxLen; omega) (by omega) (by simp; omega) (wr.heap.size + 1) (by simp) ?_; intro g7 cap7 w7 hown7 hgr7 hat7 hg7; have p0 := (hgr7.cell_far ⟨w.heap.size, i, none⟩ (by simp; omega) (by intro e; have h : w2.heap.size ≤ w.heap.size := HGN.out _ e.symm; omega)).trans ((KP.out _ _ hlw).trans k0); have p1 := (hgr7.cell_far ⟨g, i, none⟩ (by simp; omega) (by intro e; have h : w2.heap.size ≤ g := HGN.out _ e.symm; omega)).trans ((KP.out _ _ hgw).trans hpc)))
        go_wp2
        have hb7 : Below w2.heap.size w2 w7 := ((HB2.out.alloc hsz _).drew).grown hgr7 (by simp; omega) (fun k hk => HGN.out k hk)
        refine ⟨⟨i + 1, by omega, by go_num, ?_, hb7⟩, by simp [intOf]; omega⟩
        rw [HZT.out, nz_append]
        have : nz [(q, n)] = [(q, n)] := by unfold nz; rw [List.filter_cons, if_pos h0b]; rfl
        rw [this]
        unfold RowT
        rw [List.length_append, HL.out, encT_append]
        exact hown7
    · obtain rfl : i = 6 := by omega
      have k6 := HRR.out.cell (i := 6) (x := xd) rfl
      have hbf := HB.out.trans (HB2.out.mono hz2)
      have hrt : RowT wr w.heap.size u6 (nz (V6.zl ⟨x0, x1, x2, x3, x4, x5⟩)) := by
        have hr := HROW.out
        refine ⟨hr.1, ?_⟩
        rcases hr.2 with h | ⟨g', cap, cur, h1, h2, h3⟩
        · exact .inl h
        · exact .inr ⟨g', cap, cur, h1, Nat.le_trans hz2 h2, h3⟩
      have HRT := Lib.hid hrt
      have HBF := Lib.hid hbf
      clear hrt hbf hpp HROW
      go_wp2
      go_region_held3 (fun w' => w'.cell? ⟨w.heap.size, 6, none⟩ = some (.int .i64 xd)) (go_keep) (fail)
      go_wp2
      go_ret3
      rw [HCT.out]
      exact .inl ⟨trivial, u6, rfl, HRT.out.up (Below.refl _ _).drew, HBF.out.drew⟩
end Go.Proofs.YtlmcafcebidliaaDoor
