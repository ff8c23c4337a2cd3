import Derived.Test.YtmbcejldifobnaaDoorC14
import Derived.Deep.DeepCutAuto
namespace Go.Proofs.YtmbcejldifobnaaDoor.Pc
open Go.RowKit Tp
set_option maxRecDepth 100000 in
set_option maxHeartbeats 1000000 in
theorem usual_any (t : Int) (w : World) : Calls Tryd.prog 28 #[.int .i64 t] w fun e w' => e = .returned (.agg #[.int .i64 440000, .int .i64 15000, .int .i64 t]) ∧ Below w.heap.size w w' := by
  have hb := belB w (.cells #[.int .i64 0, .int .i64 0, .int .i64 0] 50)
  have hr := RowV.of_alloc w 50 [.int .i64 0, .int .i64 0, .int .i64 0]
  have c0 : (w.alloc (.cells #[.int .i64 0, .int .i64 0, .int .i64 0] 50)).cell? ⟨w.heap.size, 0, none⟩ = some (.int .i64 0) := hr.cell (i := 0) rfl
  have c1 : (w.alloc (.cells #[.int .i64 0, .int .i64 0, .int .i64 0] 50)).cell? ⟨w.heap.size, 1, none⟩ = some (.int .i64 0) := hr.cell (i := 1) rfl
  have c2 : (w.alloc (.cells #[.int .i64 0, .int .i64 0, .int .i64 0] 50)).cell? ⟨w.heap.size, 2, none⟩ = some (.int .i64 0) := hr.cell (i := 2) rfl
  have HB := Lib.hid hb
  have HR := Lib.hid hr
  clear hb hr
  go_enter Tryd.func28, Tryd.ntmps28
  go_wp2
  exact bodyPost_ret (v := .agg [.int .i64 440000, .int .i64 15000, .int .i64 t].toArray) (results_cell rfl rfl (run_loadVar_mid _ _ 0 _ [.int .i64 440000, .int .i64 15000, .int .i64 t] _ (RowV.of_alloc w 50 [.int .i64 440000, .int .i64 15000, .int .i64 t]).all Tryd.underlying50 rfl (szStd 440000 15000 t))) rfl ⟨rfl, belB w _⟩
set_option maxRecDepth 100000 in
set_option maxHeartbeats 1000000 in
theorem named0_any (w : World) : Calls Tryd.prog 29 #[.string ⟨#[101, 113, 117, 97, 108]⟩] w fun e w' => e = .returned (.agg (tmV std0).toArray) ∧ Below w.heap.size w w' := by
  have hz := zero26
  have HR0 := Lib.hid (RowV.of_alloc w 38 (tmV tm0))
  have HB0 := Lib.hid (belB w (.cells (tmV tm0).toArray 38))
  have HST := Lib.hid (fun W => rStandard0 W)
  have HSZ := Lib.hid (szT (T := std0) rfl)
  have hl2 : (tmV std0).length = 27 := rfl
  have hl0 : (tmV tm0).length = 27 := rfl
  have HO := Lib.hid (oneT std0)
  generalize tmV std0 = L at *
  generalize tmV tm0 = Z at *
  have HL2 := Lib.hid hl2
  have HL0 := Lib.hid hl0
  clear hl2 hl0
  go_enter Tryd.func29, Tryd.ntmps29
  go_wp2_with fail
  refine (HST.out _).mono ?_
  rintro e w1 ⟨he, hb1⟩
  subst he
  have hr0 := HR0.out.up hb1
  have hb := HB0.out.trans (hb1.mono HB0.out.size)
  have hg := hr0.lt
  obtain ⟨W, hW⟩ : ∃ W, W = (w1.alloc (.cells Z.toArray 38)).setCells w1.heap.size 0 L.toArray.toList := ⟨_, rfl⟩
  have hth1 : (w1.alloc (.cells Z.toArray 38)).there w1.heap.size 0 L.toArray.size := (RowV.of_alloc w1 38 Z).there (by rw [List.size_toArray, HL2.out, HL0.out]; exact Nat.le_refl _)
  have hrow : RowV W w1.heap.size 38 L := by
    rw [hW]
    have h := (RowV.of_alloc w1 38 Z).setCells L 0 _ _ (by rw [HL2.out, HL0.out]; exact Nat.le_refl _)
    have e : Z.take 0 ++ L ++ Z.drop (0 + L.length) = L := by rw [List.drop_eq_nil_of_le (by rw [HL2.out, HL0.out]; exact Nat.le_refl _)]; simp
    rw [e] at h
    exact h
  have hrow0 : RowV W w.heap.size 38 Z := by rw [hW]; exact RowV.otherCells (Nat.ne_of_lt hg) _ _ _ (hr0.alloc _)
  have hbW : Below w.heap.size w W := by rw [hW]; exact below_setCells _ _ _ (hb.alloc hb.size _) hb.size
  have hth2 : W.there w.heap.size 0 L.toArray.size := hrow0.there (by rw [List.size_toArray, HL2.out, HL0.out]; exact Nat.le_refl _)
  have hr4 : RowV (W.setCells w.heap.size 0 L) w.heap.size 38 L := by
    have h := hrow0.setCells L 0 _ _ (by rw [HL2.out, HL0.out]; exact Nat.le_refl _)
    have e : Z.take 0 ++ L ++ Z.drop (0 + L.length) = L := by rw [List.drop_eq_nil_of_le (by rw [HL2.out, HL0.out]; exact Nat.le_refl _)]; simp
    rw [e] at h
    exact h
  have TH1 := Lib.hid hth1
  have TH2 := Lib.hid hth2
  have HRW := Lib.hid hrow.all
  have HBW := Lib.hid hbW
  have HR4 := Lib.hid hr4
  have HW := Lib.hid hW
  clear hth1 hth2 hrow hrow0 hbW hr4 hW hr0 hb hb1 HR0 HB0 HST
  go_wp2_with (first | ((show wpList _ _ _ (⟨_, .store _ (.tmp 3) _, _, _, _, _⟩ :: _) _ _); refine wpList_store_mid rfl 38 _ _ rfl w1.heap.size 0 L.toArray rfl rfl TH1.out HSZ.out HO.out ?_; rw [← HW.out]) | ((show wpList _ _ _ (⟨_, .load _ _, _, _, _, _⟩ :: _) _ _); refine wpList_load_mid rfl 38 _ rfl w1.heap.size 0 rfl L _ HRW.out Tryd.underlying38 rfl HSZ.out ?_) | ((show wpList _ _ _ (⟨_, .store _ (.tmp 2) _, _, _, _, _⟩ :: _) _ _); refine wpList_store_mid rfl 38 _ _ rfl w.heap.size 0 L.toArray rfl rfl TH2.out HSZ.out HO.out ?_))
  exact bodyPost_ret (v := .agg L.toArray) (results_cell rfl rfl (run_loadVar_mid _ _ 0 _ L _ HR4.out.all Tryd.underlying38 rfl HSZ.out)) rfl ⟨rfl, below_setCells _ _ _ HBW.out (Nat.le_refl _)⟩
set_option maxRecDepth 100000 in
set_option maxHeartbeats 2000000 in
theorem awake6_any (w : World) (hp : PrL w) : Calls Tryd.prog 25 #[] w fun e w' => e = .returned (.bool true) ∧ Below w.heap.size w w' := by
  have HP := Lib.hid hp
  have HUS := Lib.hid (fun t W => usual_any t W)
  have HNA := Lib.hid (fun W => named0_any W)
  have hnm : std0.nm.size ≤ maxLen := by unfold maxLen; decide
  have hf1 : ∀ W, PrL W → Calls Tryd.prog 26 #[.agg #[.int .i64 440000, .int .i64 15000, .int .i64 15000], .agg (tmV std0).toArray, .int .i64 60] W fun e w' => e = .returned (.tuple #[.agg #[.int .i64 261625, .int .i64 261626], .int .i64 0]) ∧ Below W.heap.size W w' := fun W h => by
    refine (Freq_ok 440000 15000 15000 std0 12 11 60 W h (by decide +kernel) rfl hnm std0_chk std0_vd (by omega)).mono ?_
    rintro e w' ⟨N, hN, m, k, hm, he, hb⟩
    obtain ⟨rfl, rfl⟩ := freq60 hN hm
    exact ⟨he, hb⟩
  have hf2 : ∀ W, PrL W → Calls Tryd.prog 26 #[.agg #[.int .i64 440000, .int .i64 15000, .int .i64 20000], .agg (tmV std0).toArray, .int .i64 69] W fun e w' => e = .returned (.tuple #[.agg #[.int .i64 443801, .int .i64 443802], .int .i64 0]) ∧ Below W.heap.size W w' := fun W h => by
    refine (Freq_ok 440000 15000 20000 std0 12 11 69 W h (by decide +kernel) rfl hnm std0_chk std0_vd (by omega)).mono ?_
    rintro e w' ⟨N, hN, m, k, hm, he, hb⟩
    obtain ⟨rfl, rfl⟩ := freq69 hN hm
    exact ⟨he, hb⟩
  have hdr : ∀ W, Calls Tryd.prog 65 #[.agg #[.int .i64 440000, .int .i64 15000, .int .i64 20000]] W fun e w' => e = .returned (.tuple #[.int .i64 14891, .int .i64 0]) ∧ Below W.heap.size W w' := fun W => by
    refine (Drift_any 440000 15000 20000 W).mono ?_
    rintro e w' ⟨h | ⟨-, m, hm, he⟩, hb⟩
    · exact absurd (by decide +kernel : stdE 440000 15000 20000 = 0) h.1
    · obtain rfl := drift_val hm
      exact ⟨he, hb⟩
  have HF1 := Lib.hid hf1
  have HF2 := Lib.hid hf2
  have HDR := Lib.hid hdr
  clear hp hnm hf1 hf2 hdr
  generalize tmV std0 = L at *
  go_enter Tryd.func25, Tryd.ntmps25
  go_wp2_with fail
  refine (HUS.out _ _).mono ?_
  rintro e w1 ⟨he, hb1⟩
  subst he
  go_wp2_with fail
  refine (HNA.out _).mono ?_
  rintro e w2 ⟨he, hb2⟩
  subst he
  have HB2 := Lib.hid (hb1.trans (hb2.mono hb1.size))
  clear hb1 hb2
  go_wp2_with fail
  refine (HF1.out _ (HP.out.below HB2.out)).mono ?_
  rintro e w3 ⟨he, hb3⟩
  subst he
  have HB3 := Lib.hid (HB2.out.trans (hb3.mono HB2.out.size))
  clear hb3 HB2 HF1
  have r3 : RowV (w3.alloc (.cells #[.int .i64 261625, .int .i64 261626] 55)) w3.heap.size 55 [.int .i64 261625, .int .i64 261626] := RowV.of_alloc w3 55 [.int .i64 261625, .int .i64 261626]
  have hb3 : Below w.heap.size w (w3.alloc (.cells #[.int .i64 261625, .int .i64 261626] 55)) := HB3.out.alloc HB3.out.size _
  have R3 := Lib.hid r3
  have HB3' := Lib.hid hb3
  clear r3 hb3 HB3
  go_wp2_with fail
  refine (HUS.out _ _).mono ?_
  rintro e w4 ⟨he, hb4⟩
  subst he
  have R4 := Lib.hid (R3.out.up hb4)
  have HB4 := Lib.hid (HB3'.out.trans (hb4.mono HB3'.out.size))
  clear hb4 R3 HB3'
  go_wp2_with fail
  refine (HNA.out _).mono ?_
  rintro e w5 ⟨he, hb5⟩
  subst he
  have R5 := Lib.hid (R4.out.up hb5)
  have HB5 := Lib.hid (HB4.out.trans (hb5.mono HB4.out.size))
  clear hb5 R4 HB4
  go_wp2_with fail
  refine (HF2.out _ (HP.out.below HB5.out)).mono ?_
  rintro e w6 ⟨he, hb6⟩
  subst he
  have R6 := Lib.hid ((R5.out.up hb6).alloc (.cells #[.int .i64 443801, .int .i64 443802] 55))
  have S6 := Lib.hid (RowV.of_alloc w6 55 [.int .i64 443801, .int .i64 443802])
  have hb6' := HB5.out.trans (hb6.mono HB5.out.size)
  have HB6 := Lib.hid (hb6'.alloc hb6'.size (.cells #[.int .i64 443801, .int .i64 443802] 55))
  clear hb6 hb6' R5 HB5 HF2
  go_wp2_with fail
  refine (HUS.out _ _).mono ?_
  rintro e w7 ⟨he, hb7⟩
  subst he
  have R7 := Lib.hid (R6.out.up hb7)
  have S7 := Lib.hid (S6.out.up hb7)
  have HB7 := Lib.hid (HB6.out.trans (hb7.mono HB6.out.size))
  clear hb7 R6 S6 HB6
  go_wp2_with fail
  refine (HDR.out _).mono ?_
  rintro e w8 ⟨he, hb8⟩
  subst he
  have c0 := RowV.c0 (R7.out.up hb8)
  have c1 := RowV.c1 (R7.out.up hb8)
  have d0 := RowV.c0 (S7.out.up hb8)
  have d1 := RowV.c1 (S7.out.up hb8)
  have HB8 := Lib.hid (HB7.out.trans (hb8.mono HB7.out.size))
  clear hb8 R7 S7 HB7 HDR HUS HNA
  go_wp2
  go_ret
  exact ⟨rfl, HB8.out⟩
end Go.Proofs.YtmbcejldifobnaaDoor.Pc

namespace Go.Proofs.YtmbcejldifobnaaDoor.Pc
open Go.RowKit Tp
theorem lit_sgnM (a S M : Nat) (h : a ^ 2 * (2 ^ 15 * S ^ 2) < M ^ 2) : sgnP [(a, 2), (2, 15), (S, 2), (M, -2)] ≤ 0 := by
  have : sgnP [(a, 2), (2, 15), (S, 2), (M, -2)] < 0 := by
    rw [sgn_lt]
    show a ^ 2 * (2 ^ 15 * (S ^ 2 * (M ^ 0 * 1))) < a ^ 0 * (2 ^ 0 * (S ^ 0 * (M ^ 2 * 1)))
    simp only [Nat.pow_zero, Nat.one_mul, Nat.mul_one]
    exact h
  omega
theorem fq_noM {M : Nat} (hM : 1 ≤ M) {a : Nat} {t0 t : Int} {R : Rt} (hR : ROk R) (ha : 1 ≤ a) (ha2 : a ≤ 1000000) (h1 : -20000 ≤ t0) (h2 : t0 ≤ 50000) (h3 : -20000 ≤ t) (h4 : t ≤ 50000) {S : Nat} (hS : 1 ≤ S) (hq : a ^ 2 * (2 ^ 15 * S ^ 2) < M ^ 2) : PwF (fqL a t0 t R) (fqD R) S (M : Int) < 0 := by
  have d1 := hR.d1
  have hp := fq_pos hR ha ha2 h1 h2 h3 h4
  have hf := fast_pos h1 h2 h3 h4
  unfold PwF
  rw [if_neg (by omega)]
  have hb : sgnP (scL R.d [(a, 2), (2, 15), (S, 2), (M, -2)]) ≤ 0 := by
    rw [sgn_scl (by omega)]
    refine lit_sgnM a S M ?_
    exact hq
  have hc : sgnP (scL 2 (R.v.two (-(7 * R.d))).zl) ≤ 0 := by rw [sgn_scl (by omega)]; exact hR.up
  have hd : sgnP (scL R.d (fastL t0 t ++ [(2, -1)])) < 0 := by rw [sgn_scl (by omega)]; exact fast_two h1 h2 h3 h4
  have p1 : posN (scL R.d [(a, 2), (2, 15), (S, 2), (M, -2)]) := posN_scL _ (posN_cons.2 ⟨ha, posN_cons.2 ⟨by show 1 ≤ 2; omega, posN_cons.2 ⟨hS, posN_cons.2 ⟨hM, posN_nil⟩⟩⟩⟩)
  have p2 : posN (scL 2 (R.v.two (-(7 * R.d))).zl) := posN_scL _ (V6.pos _)
  have p3 : posN (scL R.d (fastL t0 t ++ [(2, -1)])) := posN_scL _ (posN_append.2 ⟨hf, posN_cons.2 ⟨by show 1 ≤ 2; omega, posN_nil⟩⟩)
  have hbc := sgn_le_mul (l := scL R.d [(a, 2), (2, 15), (S, 2), (M, -2)] ++ scL 2 (R.v.two (-(7 * R.d))).zl) (posN_append.2 ⟨p1, p2⟩) p1 p2 (fun p => ex_append p _ _) hb hc
  refine sgn_lt_mul (posN_pw hp hS (by omega)) p3 (posN_append.2 ⟨p1, p2⟩) (fun p => ?_) hd hbc
  rw [ex_append, ex_append, ex_fq, ex_append, ex_scL, ex_append, ex_scL, ex_four, ex_scL, ex_two, ex_of p S, ex_of p (Int.toNat (M : Int)), ex_of p 2 (-1)]
  rw [show (if 2 = p then -(7 * R.d) else 0) = ex p [(2, 1)] * -(7 * R.d) by rw [ex_single]; split <;> simp, show Int.toNat (M : Int) = M from rfl]
  unfold fqD
  generalize ex p [(a, 1)] = A
  generalize ex p [(2, 1)] = B
  generalize ex p [(S, 1)] = C
  generalize ex p [(M, 1)] = E
  generalize ex p R.v.zl = G
  generalize ex p (fastL t0 t) = H
  grind
theorem span_below {F : Int → Int} {m k M : Int} (aF : ∀ x y, 0 ≤ x → x < y → 0 ≤ F y → 0 < F x) (h : SpanIs F m k) (h0 : 0 ≤ M) (hM : F M < 0) : 0 ≤ m ∧ m ≤ k ∧ k ≤ M := by
  obtain ⟨f1, f2, f3, f4, f5⟩ := h
  have : m < M := by
    rcases Int.lt_or_le m M with hc | hc
    · exact hc
    · rcases Int.lt_or_le M m with hc2 | hc2
      · have := aF M m h0 hc2 f3; omega
      · have e : m = M := by omega
        rw [e] at f3; omega
  omega
theorem fq_bound {A : Nat} {R : Rt} {t0 t m k : Int} (hR : ROk R) (hA : 1 ≤ A) (hA2 : A ≤ 1000000) (h1 : -20000 ≤ t0) (h2 : t0 ≤ 50000) (h3 : -20000 ≤ t) (h4 : t ≤ 50000) (h : SpanIs (PwF (fqL A t0 t R) (fqD R) 1) m k) : 0 ≤ m ∧ m ≤ k ∧ k ≤ 1000000000 := by
  have hd : 1 ≤ fqD R := by have := hR.d1; unfold fqD; omega
  refine span_below (fun x y a b c => PwF_anti (fq_pos hR hA hA2 h1 h2 h3 h4) hd (by omega) a b c) h (by omega) (fq_noM (M := 1000000000) (by omega) hR hA hA2 h1 h2 h3 h4 (by omega) ?_)
  have i1 : A ^ 2 ≤ 1000000 ^ 2 := Nat.pow_le_pow_left hA2 2
  exact Nat.lt_of_le_of_lt (Nat.mul_le_mul_right _ i1) (by decide)
end Go.Proofs.YtmbcejldifobnaaDoor.Pc

namespace Go.Proofs.YtmbcejldifobnaaDoor.Pc
open Go.RowKit Tp Sp
theorem span_f {a : Nat} {t0 t m k : Int} {R : Rt} (hR : ROk R) (ha : 100000 ≤ a) (ha2 : a ≤ 1000000) (h1 : -20000 ≤ t0) (h2 : t0 ≤ 50000) (h3 : -20000 ≤ t) (h4 : t ≤ 50000) (h : SpanIs (PwF (fqL a t0 t R) (fqD R) 1) m k) :
    ∃ f : Nat, m = (f : Int) ∧ 13 ≤ f ∧ f ≤ 1000000000 ∧ 0 ≤ sgnP (fqL a t0 t R ++ [(1, fqD R)] ++ [(f, -fqD R)]) ∧ sgnP (fqL a t0 t R ++ [(1, fqD R)] ++ [(f + 1, -fqD R)]) < 0 := by
  have hb := fq_bound hR (by omega) ha2 h1 h2 h3 h4 h
  obtain ⟨m0, m1, f0, f1, -⟩ := h
  have hd : 1 ≤ fqD R := by have := hR.d1; unfold fqD; omega
  have hl := fq_low hR ha ha2 h1 h2 h3 h4
  have h13 : 13 ≤ m := by
    apply Classical.byContradiction
    intro hm
    by_cases e : m + 1 = 13
    · rw [e] at f1; omega
    · have := PwF_anti (fq_pos hR (by omega) ha2 h1 h2 h3 h4) hd (by omega) (show 0 ≤ m + 1 by omega) (show m + 1 < 13 by omega) hl
      omega
  obtain ⟨f, rfl⟩ : ∃ f : Nat, m = (f : Int) := ⟨m.toNat, by omega⟩
  refine ⟨f, rfl, by omega, by omega, ?_, ?_⟩
  · unfold PwF at f0
    rw [if_neg (by omega), Int.toNat_natCast] at f0
    exact f0
  · unfold PwF at f1
    rw [if_neg (by omega), show ((f : Int) + 1).toNat = f + 1 by omega] at f1
    exact f1
theorem Near_x (a f k : Nat) (t0 t K0 : Int) (T : Tm) (D : Int) (wn : Nat) (N : List Rt) (w : World) (hp : PrL w) (hst : stdE a t0 t = 0) (hl : T.ps.length = 12) (hs : T.nm.size ≤ maxLen) (hk : chkT T = 0) (hv : Vd T D wn) (ha1 : 1 ≤ a) (ha2 : a ≤ 1000000) (h1 : -20000 ≤ t0) (h2 : t0 ≤ 50000) (h3 : -20000 ≤ t) (h4 : t ≤ 50000) (hf1 : 13 ≤ f) (hf2 : f ≤ 1000000000) (hN : NotesL D (fN T D) wn 12 N) (hkn : k ≤ 139)
    (hlo : 0 ≤ sgnP (fqL a t0 t (nr N k) ++ [(1, fqD (nr N k))] ++ [(f, -fqD (nr N k))])) (hhi : sgnP (fqL a t0 t (nr N k) ++ [(1, fqD (nr N k))] ++ [(f + 1, -fqD (nr N k))]) < 0) (hK0 : 0 ≤ K0) (hK : 1800000 ≤ (K0 + 1) * (f + 1)) :
    Calls Tryd.prog 27 #[.agg #[.int .i64 (a : Int), .int .i64 t0, .int .i64 t], .agg (tmV T).toArray, .int .i64 (f : Int)] w fun r w' => ∃ V, r = .returned V ∧ (∃ (M : Nat) (m : Int), V = .tuple #[.int .i64 (M : Int), .int .i64 m, .int .i64 0] ∧ M ≤ 139 ∧ -(K0 + 2) ≤ m ∧ m ≤ K0 + 2) ∧ Below w.heap.size w w' :=
  (Nearest_all a f t0 t T D wn w hp hst hl hs hk hv ha1 ha2 h1 h2 h3 h4 (by omega) hf2).mono fun r w' ⟨⟨N', M, m, hN', hM, h5, h6, h7⟩, h8⟩ => by
    obtain rfl := notes_uniq hv.d1 hN hN'
    have q1 := q_sm (f := f) (n := k) hv.circ hN ha1 ha2 h1 h2 h3 h4 (by omega) hf2 hkn
    have q2 := q_sm (f := f) (n := M) hv.circ hN ha1 ha2 h1 h2 h3 h4 (by omega) hf2 hM
    have hc := near_cents hf1 q1.1.pos q2.1.pos q1.2.2.1 q2.2.2.1 hlo hhi (h7 k hkn) h6 (show 0 ≤ K0 + 1 by omega) hK
    exact ⟨_, h5, ⟨M, m, rfl, hM, by omega, by omega⟩, h8⟩
theorem Freq_x (a k : Nat) (t0 t : Int) (T : Tm) (D : Int) (wn : Nat) (w : World) (hp : PrL w) (hst : stdE a t0 t = 0) (hl : T.ps.length = 12) (hs : T.nm.size ≤ maxLen) (hk : chkT T = 0) (hv : Vd T D wn) (hkn : k ≤ 139) :
    Calls Tryd.prog 26 #[.agg #[.int .i64 (a : Int), .int .i64 t0, .int .i64 t], .agg (tmV T).toArray, .int .i64 (k : Int)] w fun e w' => ∃ V, e = .returned V ∧ (∃ N m y, NotesL D (fN T D) wn 12 N ∧ V = .tuple #[.agg #[.int .i64 m, .int .i64 y], .int .i64 0] ∧ SpanIs (PwF (fqL a t0 t (nr N k)) (fqD (nr N k)) 1) m y) ∧ Below w.heap.size w w' :=
  (Freq_ok a t0 t T D wn k w hp hst hl hs hk hv hkn).mono fun _ _ ⟨N, hN, m, y, h1, h2, h3⟩ => ⟨_, h2, ⟨N, m, y, hN, rfl, h1⟩, h3⟩
theorem sound_x (a t0 t : Int) (T : Tm) (n : Int) (w : World) (hl : T.ps.length = 12) (hs : T.nm.size ≤ maxLen) : Calls Tryd.prog 24 #[.agg (csV a t0 t T).toArray, .int .i64 n] w fun e w' => e = .returned (.bool (decide (stdE a t0 t = 0 ∧ chkT T = 0 ∧ 0 ≤ n ∧ n ≤ 139))) ∧ Below w.heap.size w w' :=
  (sound_any a t0 t T n w hl hs).mono fun e w' ⟨⟨b, h1, h2⟩, h3⟩ => by
    refine ⟨?_, h3⟩
    rw [h1]
    congr 2
    unfold SndIs at h2
    cases b
    · exact (decide_eq_false (fun h => by simpa using h2.2 h)).symm
    · exact (decide_eq_true (h2.1 rfl)).symm
set_option maxRecDepth 100000 in
set_option maxHeartbeats 2000000 in
theorem lawNear_no (a t0 t n : Int) (T : Tm) (w : World) (hp : PrL w) (hl : T.ps.length = 12) (hs : T.nm.size ≤ maxLen) (hsnd : decide (stdE a t0 t = 0 ∧ chkT T = 0 ∧ 0 ≤ n ∧ n ≤ 139) = false) : Calls Tryd.prog 5 #[.agg (csV a t0 t T).toArray, .int .i64 n] w fun r w' => r = .returned (.bool true) ∧ Below w.heap.size w w' := by
  refine calls_of_wp Tryd.func5 rfl ?_
  refine Boxw.out (ax_in ?_)
  have HB : Array.size ((#[.agg (csV a t0 t T).toArray, .int .i64 n] : Array Value) ++ Array.replicate (Func.ntmps Tryd.f5 - Array.size (#[.agg (csV a t0 t T).toArray, .int .i64 n] : Array Value)) undef) = 76 := by kernel_rfl
  have HL0 := Loc.start w
  refine aw_seq ?_
  refine aw_reg ?_
  refine ax_new 52 (csV a t0 t T) HB HL0 (by kernel_rfl) (by kernel_rfl) ?_
  intro g1 w2 HL3
  clear HL0
  refine ax_val (v := .bool false) (.bool false) HB (by kernel_rfl) (by kernel_rfl) (rfl) ?_
  refine aw_nil ?_
  refine aw_n_then ?_
  refine aw_seq ?_
  refine aw_seq ?_
  refine aw_reg ?_
  refine ax_mid 52 (.tmp 2) 0 g1 0 52 (csV a t0 t T) (csV a t0 t T) _ HB HL3 (by kernel_rfl) rfl (by kernel_rfl) rfl (by rw [List.drop_zero, List.take_length]) Tryd.underlying52 rfl (szCs hl) ?_
  refine ax_val (v := .int .i64 n) (.int .i64 n) HB (by kernel_rfl) (by kernel_rfl) (rfl) ?_
  refine ax_call 24 #[.agg (csV a t0 t T).toArray, .int .i64 n] (.bool false) HB HL3 (by kernel_rfl) (by kernel_rfl) (by have h0 := sound_x a t0 t T n w2 hl hs; rw [(hsnd : (decide (stdE a t0 t = 0 ∧ chkT T = 0 ∧ 0 ≤ n ∧ n ≤ 139)) = false)] at h0; exact h0) ?_
  intro w4 HL5
  clear HL3
  refine ax_val (v := .bool true) (.bool true) HB (by kernel_rfl) (by kernel_rfl) (rfl) ?_
  refine aw_nil ?_
  refine aw_n_then ?_
  refine ax_yes HB (by kernel_rfl) ?_
  refine aw_seq ?_
  refine aw_reg ?_
  refine ax_call 25 #[] (.bool true) HB HL5 (by kernel_rfl) (by kernel_rfl) (awake6_any w4 (hp.below HL5.bel)) ?_
  intro w6 HL7
  clear HL5
  refine ax_val (v := .bool true) (.bool true) HB (by kernel_rfl) (by kernel_rfl) (rfl) ?_
  refine aw_nil ?_
  refine aw_n_then ?_
  refine aw_ret ?_
  refine aw_r_then ?_
  refine aw_end (.bool true) (by kernel_rfl) (by kernel_rfl) ?_
  exact ⟨rfl, HL7.bel⟩

set_option maxRecDepth 100000 in
set_option maxHeartbeats 2000000 in
theorem lawNear_yes (A k : Nat) (t0 t : Int) (T : Tm) (D : Int) (wn : Nat) (w : World) (hp : PrL w) (hl : T.ps.length = 12) (hs : T.nm.size ≤ maxLen) (hsnd : decide (stdE (A : Int) t0 t = 0 ∧ chkT T = 0 ∧ 0 ≤ (k : Int) ∧ (k : Int) ≤ 139) = true) (hE : stdE (A : Int) t0 t = 0) (hC : chkT T = 0) (hk : k ≤ 139) (hv : Vd T D wn) (ha1 : 100000 ≤ A) (ha2 : A ≤ 1000000) (h1 : -20000 ≤ t0) (h2 : t0 ≤ 50000) (h3 : -20000 ≤ t) (h4 : t ≤ 50000) : Calls Tryd.prog 5 #[.agg (csV (A : Int) t0 t T).toArray, .int .i64 (k : Int)] w fun r w' => r = .returned (.bool true) ∧ Below w.heap.size w w' := by
  refine calls_of_wp Tryd.func5 rfl ?_
  refine Boxw.out (ax_in ?_)
  have HB : Array.size ((#[.agg (csV (A : Int) t0 t T).toArray, .int .i64 (k : Int)] : Array Value) ++ Array.replicate (Func.ntmps Tryd.f5 - Array.size (#[.agg (csV (A : Int) t0 t T).toArray, .int .i64 (k : Int)] : Array Value)) undef) = 76 := by kernel_rfl
  have HL0 := Loc.start w
  refine aw_seq ?_
  refine aw_reg ?_
  refine ax_new 52 (csV (A : Int) t0 t T) HB HL0 (by kernel_rfl) (by kernel_rfl) ?_
  intro g1 w2 HL3
  clear HL0
  refine ax_val (v := .bool false) (.bool false) HB (by kernel_rfl) (by kernel_rfl) (rfl) ?_
  refine aw_nil ?_
  refine aw_n_then ?_
  refine aw_seq ?_
  refine aw_seq ?_
  refine aw_reg ?_
  refine ax_mid 52 (.tmp 2) 0 g1 0 52 (csV (A : Int) t0 t T) (csV (A : Int) t0 t T) _ HB HL3 (by kernel_rfl) rfl (by kernel_rfl) rfl (by rw [List.drop_zero, List.take_length]) Tryd.underlying52 rfl (szCs hl) ?_
  refine ax_val (v := .int .i64 (k : Int)) (.int .i64 (k : Int)) HB (by kernel_rfl) (by kernel_rfl) (rfl) ?_
  refine ax_call 24 #[.agg (csV (A : Int) t0 t T).toArray, .int .i64 (k : Int)] (.bool true) HB HL3 (by kernel_rfl) (by kernel_rfl) (by have h0 := sound_x (A : Int) t0 t T (k : Int) w2 hl hs; rw [(hsnd : (decide (stdE (A : Int) t0 t = 0 ∧ chkT T = 0 ∧ 0 ≤ (k : Int) ∧ (k : Int) ≤ 139)) = true)] at h0; exact h0) ?_
  intro w4 HL5
  clear HL3
  refine ax_val (v := .bool false) (.bool false) HB (by kernel_rfl) (by kernel_rfl) (rfl) ?_
  refine aw_nil ?_
  refine aw_n_then ?_
  refine ax_no HB (by kernel_rfl) ?_
  refine aw_skip0 ?_
  refine aw_n_then ?_
  refine aw_seq ?_
  refine aw_reg ?_
  refine ax_val (v := .pointer (some ⟨g1, 0, none⟩)) (.pointer (some ⟨g1, 0, none⟩)) HB (by kernel_rfl) (by kernel_rfl) (rfl) ?_
  refine ax_mid 50 (.tmp 17) 0 g1 0 52 (csV (A : Int) t0 t T) [.int .i64 (A : Int), .int .i64 t0, .int .i64 t] _ HB HL5 (by kernel_rfl) rfl (by kernel_rfl) rfl (by kernel_rfl) Tryd.underlying50 rfl (by kernel_rfl) ?_
  refine ax_val (v := .pointer (some ⟨g1, 3, none⟩)) (.pointer (some ⟨g1, 3, none⟩)) HB (by kernel_rfl) (by kernel_rfl) (rfl) ?_
  refine ax_mid 38 (.tmp 19) 0 g1 3 52 (csV (A : Int) t0 t T) (tmV T) _ HB HL5 (by kernel_rfl) rfl (by kernel_rfl) rfl (show ((tmV T).take (tmV T).length) = _ from List.take_length) Tryd.underlying38 rfl (szT hl) ?_
  refine ax_val (v := .int .i64 (k : Int)) (.int .i64 (k : Int)) HB (by kernel_rfl) (by kernel_rfl) (rfl) ?_
  refine ax_callx 26 #[.agg #[.int .i64 (A : Int), .int .i64 t0, .int .i64 t], .agg (tmV T).toArray, .int .i64 (k : Int)] HB HL5 (by kernel_rfl) (by kernel_rfl) (Freq_x A k t0 t T D wn w4 (hp.below HL5.bel) hE hl hs hC hv hk) ?_
  intro v8 w6 R9 hb10 HL7
  obtain ⟨N, m0, y, hN, rfl, hsp⟩ := R9
  obtain ⟨x1, x2, -, -, -, -, -, -, -, hR⟩ := nr_ok (n := k) hv.circ hN (by omega)
  obtain ⟨f, rfl, hf1, hf2, hlo, hhi⟩ := span_f hR ha1 ha2 h1 h2 h3 h4 hsp
  obtain ⟨K0, hK⟩ : ∃ K0, K0 = 1800000 / (f : Int) := ⟨_, rfl⟩
  have hK0 : 0 ≤ K0 := by rw [hK]; exact Int.ediv_nonneg (by omega) (by omega)
  have hK1 : K0 ≤ 1800000 := by rw [hK]; exact Int.ediv_le_self _ (by omega)
  have hK2 : 1800000 ≤ (K0 + 1) * ((f : Int) + 1) := by
    have h := Int.lt_ediv_add_one_mul_self 1800000 (show (0 : Int) < (f : Int) by omega)
    rw [← hK] at h
    grind
  clear HL5
  refine ax_val (v := .tuple #[.agg #[.int .i64 (f : Int), .int .i64 y], .int .i64 0]) (.tuple #[.agg #[.int .i64 (f : Int), .int .i64 y], .int .i64 0]) HB (by kernel_rfl) (by kernel_rfl) (rfl) ?_
  refine ax_val (v := .agg #[.int .i64 (f : Int), .int .i64 y]) (.agg #[.int .i64 (f : Int), .int .i64 y]) HB (by kernel_rfl) (by kernel_rfl) (rfl) ?_
  refine ax_val (v := .int .i64 0) (.int .i64 0) HB (by kernel_rfl) (by kernel_rfl) (rfl) ?_
  refine ax_new 55 [.int .i64 0, .int .i64 0] HB HL7 (by kernel_rfl) (by kernel_rfl) ?_
  intro g11 w12 HL13
  clear HL7
  refine ax_store 55 (.tmp 5) (.tmp 23) 0 g11 0 55 [.int .i64 0, .int .i64 0] [.int .i64 (f : Int), .int .i64 y] [.int .i64 (f : Int), .int .i64 y] [(g11, 55, [.int .i64 (f : Int), .int .i64 y]), (g1, 52, csV (A : Int) t0 t T)] HB HL13 (by kernel_rfl) rfl (by kernel_rfl) (by kernel_rfl) rfl (by kernel_rfl) (by kernel_rfl) (Nat.le_of_ble_eq_true rfl) rfl rfl ?_
  intro w14 HL15
  clear HL13
  refine ax_val (v := .int .i64 0) (.int .i64 0) HB (by kernel_rfl) (by kernel_rfl) (rfl) ?_
  refine aw_nil ?_
  refine aw_n_then ?_
  refine aw_seq ?_
  refine aw_seq ?_
  refine aw_reg ?_
  refine ax_val (v := .int .i64 0) (.int .i64 0) HB (by kernel_rfl) (by kernel_rfl) (rfl) ?_
  refine ax_val (v := .bool false) (.bool false) HB (by kernel_rfl) (by kernel_rfl) (rfl) ?_
  refine ax_val (v := .bool false) (.bool false) HB (by kernel_rfl) (by kernel_rfl) (rfl) ?_
  refine ax_val (v := .pointer (some ⟨g11, 0, none⟩)) (.pointer (some ⟨g11, 0, none⟩)) HB (by kernel_rfl) (by kernel_rfl) (rfl) ?_
  refine ax_load 2 (.tmp 28) 0 g11 0 55 [.int .i64 (f : Int), .int .i64 y] (.int .i64 (f : Int)) _ HB HL15 (by kernel_rfl) rfl (by kernel_rfl) rfl rfl Tryd.underlying2 rfl ?_
  refine ax_val (v := .bool (decide ((f : Int) < 1))) (.bool false) HB (by kernel_rfl) (by kernel_rfl) (congrArg Value.bool ((decide_eq_false (by omega)))) ?_
  refine ax_val (v := .bool false) (.bool false) HB (by kernel_rfl) (by kernel_rfl) (rfl) ?_
  refine ax_val (v := .bool false) (.bool false) HB (by kernel_rfl) (by kernel_rfl) (rfl) ?_
  refine ax_val (v := .pointer (some ⟨g11, 0, none⟩)) (.pointer (some ⟨g11, 0, none⟩)) HB (by kernel_rfl) (by kernel_rfl) (rfl) ?_
  refine ax_load 2 (.tmp 33) 0 g11 0 55 [.int .i64 (f : Int), .int .i64 y] (.int .i64 (f : Int)) _ HB HL15 (by kernel_rfl) rfl (by kernel_rfl) rfl rfl Tryd.underlying2 rfl ?_
  refine ax_val (v := .bool (decide (1000000000 < (f : Int)))) (.bool false) HB (by kernel_rfl) (by kernel_rfl) (congrArg Value.bool ((decide_eq_false (by omega)))) ?_
  refine ax_val (v := .bool false) (.bool false) HB (by kernel_rfl) (by kernel_rfl) (rfl) ?_
  refine aw_nil ?_
  refine aw_n_then ?_
  refine ax_no HB (by kernel_rfl) ?_
  refine aw_skip0 ?_
  refine aw_n_then ?_
  refine aw_seq ?_
  refine aw_reg ?_
  refine ax_val (v := .pointer (some ⟨g1, 0, none⟩)) (.pointer (some ⟨g1, 0, none⟩)) HB (by kernel_rfl) (by kernel_rfl) (rfl) ?_
  refine ax_mid 50 (.tmp 38) 1 g1 0 52 (csV (A : Int) t0 t T) [.int .i64 (A : Int), .int .i64 t0, .int .i64 t] _ HB HL15 (by kernel_rfl) rfl (by kernel_rfl) rfl (by kernel_rfl) Tryd.underlying50 rfl (by kernel_rfl) ?_
  refine ax_val (v := .pointer (some ⟨g1, 3, none⟩)) (.pointer (some ⟨g1, 3, none⟩)) HB (by kernel_rfl) (by kernel_rfl) (rfl) ?_
  refine ax_mid 38 (.tmp 40) 1 g1 3 52 (csV (A : Int) t0 t T) (tmV T) _ HB HL15 (by kernel_rfl) rfl (by kernel_rfl) rfl (show ((tmV T).take (tmV T).length) = _ from List.take_length) Tryd.underlying38 rfl (szT hl) ?_
  refine ax_val (v := .pointer (some ⟨g11, 0, none⟩)) (.pointer (some ⟨g11, 0, none⟩)) HB (by kernel_rfl) (by kernel_rfl) (rfl) ?_
  refine ax_load 2 (.tmp 42) 0 g11 0 55 [.int .i64 (f : Int), .int .i64 y] (.int .i64 (f : Int)) _ HB HL15 (by kernel_rfl) rfl (by kernel_rfl) rfl rfl Tryd.underlying2 rfl ?_
  refine ax_callx 27 #[.agg #[.int .i64 (A : Int), .int .i64 t0, .int .i64 t], .agg (tmV T).toArray, .int .i64 (f : Int)] HB HL15 (by kernel_rfl) (by kernel_rfl) (Near_x A f k t0 t K0 T D wn N w14 (hp.below HL15.bel) hE hl hs hC hv (by omega) ha2 h1 h2 h3 h4 hf1 hf2 hN hk hlo hhi hK0 hK2) ?_
  intro v18 w16 R19 hb20 HL17
  obtain ⟨M, m, rfl, hM, hm1, hm2⟩ := R19
  clear HL15
  refine ax_val (v := .tuple #[.int .i64 (M : Int), .int .i64 m, .int .i64 0]) (.tuple #[.int .i64 (M : Int), .int .i64 m, .int .i64 0]) HB (by kernel_rfl) (by kernel_rfl) (rfl) ?_
  refine ax_val (v := .int .i64 (M : Int)) (.int .i64 (M : Int)) HB (by kernel_rfl) (by kernel_rfl) (rfl) ?_
  refine ax_val (v := .int .i64 m) (.int .i64 m) HB (by kernel_rfl) (by kernel_rfl) (rfl) ?_
  refine ax_val (v := .int .i64 0) (.int .i64 0) HB (by kernel_rfl) (by kernel_rfl) (rfl) ?_
  refine ax_val (v := .int .i64 (M : Int)) (.int .i64 (M : Int)) HB (by kernel_rfl) (by kernel_rfl) (rfl) ?_
  refine ax_val (v := .int .i64 m) (.int .i64 m) HB (by kernel_rfl) (by kernel_rfl) (rfl) ?_
  refine ax_val (v := .int .i64 0) (.int .i64 0) HB (by kernel_rfl) (by kernel_rfl) (rfl) ?_
  refine aw_nil ?_
  refine aw_n_then ?_
  refine aw_seq ?_
  refine aw_reg ?_
  refine ax_val (v := .pointer (some ⟨g11, 0, none⟩)) (.pointer (some ⟨g11, 0, none⟩)) HB (by kernel_rfl) (by kernel_rfl) (rfl) ?_
  refine ax_load 2 (.tmp 48) 0 g11 0 55 [.int .i64 (f : Int), .int .i64 y] (.int .i64 (f : Int)) _ HB HL17 (by kernel_rfl) rfl (by kernel_rfl) rfl rfl Tryd.underlying2 rfl ?_
  refine ax_val (v := .int .i64 (IntKind.i64.wrap ((1800000 : Int).tdiv (f : Int)))) (.int .i64 K0) HB (by kernel_rfl) (run_quo w16 2 _ (.const (.int .i64 1800000)) (.tmp 49) 1800000 (f : Int) rfl (by kernel_rfl) (by kernel_rfl) (by omega) Tryd.underlying2) (congrArg (Value.int .i64) ((quo_pos (by omega) (by omega) (by omega)).trans hK.symm)) ?_
  refine ax_val (v := .int .i64 (IntKind.i64.wrap (K0 + 2))) (.int .i64 (K0 + 2)) HB (by kernel_rfl) (by kernel_rfl) (congrArg (Value.int .i64) (IntWalk.i64_in _ (by omega))) ?_
  refine ax_val (v := .int .i64 (K0 + 2)) (.int .i64 (K0 + 2)) HB (by kernel_rfl) (by kernel_rfl) (rfl) ?_
  refine aw_nil ?_
  refine aw_n_then ?_
  refine aw_seq ?_
  refine aw_reg ?_
  refine ax_val (v := .int .i64 0) (.int .i64 0) HB (by kernel_rfl) (by kernel_rfl) (rfl) ?_
  refine ax_val (v := .bool true) (.bool true) HB (by kernel_rfl) (by kernel_rfl) (rfl) ?_
  refine ax_val (v := .bool true) (.bool true) HB (by kernel_rfl) (by kernel_rfl) (rfl) ?_
  refine ax_val (v := .int .i64 (M : Int)) (.int .i64 (M : Int)) HB (by kernel_rfl) (by kernel_rfl) (rfl) ?_
  refine ax_val (v := .bool (decide (0 ≤ (M : Int)))) (.bool true) HB (by kernel_rfl) (by kernel_rfl) (congrArg Value.bool ((decide_eq_true (by omega)))) ?_
  refine ax_val (v := .bool true) (.bool true) HB (by kernel_rfl) (by kernel_rfl) (rfl) ?_
  refine ax_val (v := .bool true) (.bool true) HB (by kernel_rfl) (by kernel_rfl) (rfl) ?_
  refine ax_val (v := .int .i64 (M : Int)) (.int .i64 (M : Int)) HB (by kernel_rfl) (by kernel_rfl) (rfl) ?_
  refine ax_val (v := .bool (decide ((M : Int) ≤ 139))) (.bool true) HB (by kernel_rfl) (by kernel_rfl) (congrArg Value.bool ((decide_eq_true (by omega)))) ?_
  refine ax_val (v := .bool true) (.bool true) HB (by kernel_rfl) (by kernel_rfl) (rfl) ?_
  refine ax_val (v := .bool true) (.bool true) HB (by kernel_rfl) (by kernel_rfl) (rfl) ?_
  refine ax_val (v := .int .i64 m) (.int .i64 m) HB (by kernel_rfl) (by kernel_rfl) (rfl) ?_
  refine ax_val (v := .int .i64 (K0 + 2)) (.int .i64 (K0 + 2)) HB (by kernel_rfl) (by kernel_rfl) (rfl) ?_
  refine ax_val (v := .int .i64 (IntKind.i64.wrap (-(K0 + 2)))) (.int .i64 (-(K0 + 2))) HB (by kernel_rfl) (run_neg w16 2 (.tmp 64) (K0 + 2) rfl (by kernel_rfl)) (congrArg (Value.int .i64) (IntWalk.i64_in _ (by omega))) ?_
  refine ax_val (v := .bool (decide ((-(K0 + 2)) ≤ m))) (.bool true) HB (by kernel_rfl) (by kernel_rfl) (congrArg Value.bool ((decide_eq_true (by omega)))) ?_
  refine ax_val (v := .bool true) (.bool true) HB (by kernel_rfl) (by kernel_rfl) (rfl) ?_
  refine ax_val (v := .bool true) (.bool true) HB (by kernel_rfl) (by kernel_rfl) (rfl) ?_
  refine ax_val (v := .int .i64 m) (.int .i64 m) HB (by kernel_rfl) (by kernel_rfl) (rfl) ?_
  refine ax_val (v := .int .i64 (K0 + 2)) (.int .i64 (K0 + 2)) HB (by kernel_rfl) (by kernel_rfl) (rfl) ?_
  refine ax_val (v := .bool (decide (m ≤ (K0 + 2)))) (.bool true) HB (by kernel_rfl) (by kernel_rfl) (congrArg Value.bool ((decide_eq_true (by omega)))) ?_
  refine ax_val (v := .bool true) (.bool true) HB (by kernel_rfl) (by kernel_rfl) (rfl) ?_
  refine ax_val (v := .bool true) (.bool true) HB (by kernel_rfl) (by kernel_rfl) (rfl) ?_
  refine ax_call 25 #[] (.bool true) HB HL17 (by kernel_rfl) (by kernel_rfl) (awake6_any w16 (hp.below HL17.bel)) ?_
  intro w21 HL22
  clear HL17
  refine ax_val (v := .bool true) (.bool true) HB (by kernel_rfl) (by kernel_rfl) (rfl) ?_
  refine ax_val (v := .bool true) (.bool true) HB (by kernel_rfl) (by kernel_rfl) (rfl) ?_
  refine aw_nil ?_
  refine aw_n_then ?_
  refine aw_ret ?_
  refine aw_end (.bool true) (by kernel_rfl) (by kernel_rfl) ?_
  exact ⟨rfl, HL22.bel⟩

theorem lawNear_any (a t0 t : Int) (T : Tm) (n : Int) (w : World) (hp : PrL w) (hl : T.ps.length = 12) (hs : T.nm.size ≤ maxLen) : Calls Tryd.prog 5 #[.agg (csV a t0 t T).toArray, .int .i64 n] w fun e w' => e = .returned (.bool true) ∧ Below w.heap.size w w' := by
  by_cases h : stdE a t0 t = 0 ∧ chkT T = 0 ∧ 0 ≤ n ∧ n ≤ 139
  · have hd := decide_eq_true h
    obtain ⟨hE, hC, hn0, hn1⟩ := h
    have hst : stdB a t0 t = true := by
      unfold stdE at hE
      split at hE
      · assumption
      · cases hE
    obtain ⟨⟨a1, a2⟩, ⟨b1, b2⟩, ⟨c1, c2⟩⟩ := stdB_iff.1 hst
    obtain ⟨A, rfl⟩ : ∃ A : Nat, a = (A : Int) := ⟨a.toNat, by omega⟩
    obtain ⟨k, rfl⟩ : ∃ k : Nat, n = (k : Int) := ⟨n.toNat, by omega⟩
    obtain ⟨D, wn, -, hv⟩ := chk_vd hl hC
    exact lawNear_yes A k t0 t T D wn w hp hl hs hd hE hC (by omega) hv (by omega) (by omega) b1 b2 c1 c2
  · exact lawNear_no a t0 t n T w hp hl hs (decide_eq_false h)
end Go.Proofs.YtmbcejldifobnaaDoor.Pc
