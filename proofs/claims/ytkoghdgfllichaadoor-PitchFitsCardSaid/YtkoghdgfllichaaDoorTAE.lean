import Derived.Test.YtkoghdgfllichaaDoorTAC
import Derived.Test.YtkoghdgfllichaaDoorTAD
namespace Go.Proofs.YtkoghdgfllichaaDoor.Tp
open Go.RowKit

def clB (n : Int) : Bool := decide (0 ≤ n) && decide (n < 12)
set_option maxHeartbeats 400000 in
theorem isClass_any (n : Int) (w : World) : Calls Tryd.prog 88 #[.int .i64 n] w fun e w' => e = .returned (.bool (clB n)) ∧ w = w' := by
  have hc : clB n = (decide (0 ≤ n) && decide (n < 12)) := rfl
  have HC := Lib.hid hc
  clear hc
  generalize clB n = c at *
  by_cases h1 : 0 ≤ n
  · by_cases h2 : n < 12
    · go_enter Tryd.func88, Tryd.ntmps88
      go_wp2
      go_ret
      exact ⟨by rw [HC.out, decide_eq_true h1, decide_eq_true h2]; rfl, rfl⟩
    · go_enter Tryd.func88, Tryd.ntmps88
      go_wp2
      go_ret
      exact ⟨by rw [HC.out, decide_eq_true h1, decide_eq_false (by omega)]; rfl, rfl⟩
  · have h1' : n < 0 := by omega
    go_enter Tryd.func88, Tryd.ntmps88
    go_wp2
    go_ret
    exact ⟨by rw [HC.out, decide_eq_false (by omega)]; rfl, rfl⟩
def CentsP (w : World) (T : Tm) (D : Int) (wn : Nat) (e : Ending) (w' : World) : Prop := ∃ N M g, NotesL D (fN T D) wn 12 N ∧ CenL N 0 12 M ∧ e = .returned (.tuple #[.slice (some ⟨g, 0, none⟩) 12 12, .int .i64 0]) ∧ RowI w' g 2 M ∧ Below w.heap.size w w'
set_option maxRecDepth 100000 in
set_option maxHeartbeats 1000000 in
theorem Cents_ok (T : Tm) (D : Int) (wn : Nat) (w : World) (hp : PrL w) (hl : T.ps.length = 12) (hs : T.nm.size ≤ maxLen) (hk : chkT T = 0) (hv : Vd T D wn) : Calls Tryd.prog 47 #[.agg (tmV T).toArray] w (CentsP w T D wn) := by
  have HR := Lib.hid (RowV.of_alloc w 38 (tmV T))
  have HB := Lib.hid (belB w (.cells (tmV T).toArray 38))
  have HI2 := Lib.hid (szT hl)
  have hck := fun W => Check_any T W hl hs
  rw [hk] at hck
  have HCK := Lib.hid hck
  have HCA := Lib.hid (fun W (h : PrL W) => centsAbove_any T D wn 0 W h hl hv (by omega) (by omega))
  have HP := Lib.hid hp
  clear hp hl hs hk hv hck
  go_enter Tryd.func47, Tryd.ntmps47
  go_wp2_with ((show wpList _ _ _ (⟨_, .load _ _, _, _, _, _⟩ :: _) _ _); refine wpList_load_mid rfl 38 _ rfl w.heap.size 0 rfl (tmV T) _ HR.out.all Tryd.underlying38 rfl HI2.out ?_)
  refine (HCK.out _).mono ?_
  rintro e w1 ⟨he, hb1⟩
  subst he
  have HR1 := Lib.hid (HR.out.up hb1)
  have HB1 := Lib.hid (HB.out.trans (hb1.mono HB.out.size))
  clear hb1 HR HB HCK
  go_wp2_with ((show wpList _ _ _ (⟨_, .load _ _, _, _, _, _⟩ :: _) _ _); refine wpList_load_mid rfl 38 _ rfl w.heap.size 0 rfl (tmV T) _ HR1.out.all Tryd.underlying38 rfl HI2.out ?_)
  refine (HCA.out _ (HP.out.below HB1.out)).mono ?_
  rintro e w2 ⟨N, M, g, hN, hM, he, hg, hge, hb2⟩
  subst he
  have HBB := Lib.hid (HB1.out.trans (hb2.mono HB1.out.size))
  have HN := Lib.hid hN
  have HM := Lib.hid hM
  have HG := Lib.hid hg
  clear hb2 hN hM hg
  go_wp2_with fail
  go_ret2
  exact ⟨N, M, g, HN.out, HM.out, rfl, HG.out, HBB.out⟩
def TriadP (w : World) (T : Tm) (D : Int) (wn c : Nat) (e : Ending) (w' : World) : Prop := ∃ N a b d m1 m2, NotesL D (fN T D) wn 12 N ∧ N[c]? = some a ∧ N[(c + 4) % 12]? = some b ∧ N[(c + 7) % 12]? = some d ∧ TriR a b d m1 m2 ∧ e = .returned (.tuple #[.int .i64 m1, .int .i64 m2, .int .i64 0]) ∧ Below w.heap.size w w'
set_option maxRecDepth 100000 in
set_option maxHeartbeats 1000000 in
theorem Triad_ok (T : Tm) (D : Int) (wn c : Nat) (w : World) (hp : PrL w) (hl : T.ps.length = 12) (hs : T.nm.size ≤ maxLen) (hk : chkT T = 0) (hv : Vd T D wn) (hc : c < 12) : Calls Tryd.prog 49 #[.agg (tmV T).toArray, .int .i64 (c : Int)] w (TriadP w T D wn c) := by
  have HR := Lib.hid (RowV.of_alloc w 38 (tmV T))
  have HB := Lib.hid (belB w (.cells (tmV T).toArray 38))
  have HI2 := Lib.hid (szT hl)
  have hck := fun W => Check_any T W hl hs
  rw [hk] at hck
  have hcl := fun W => isClass_any (c : Int) W
  have e1 : clB (c : Int) = true := by unfold clB; rw [decide_eq_true (by omega), decide_eq_true (by omega)]; rfl
  rw [e1] at hcl
  have HCL := Lib.hid hcl
  have HCK := Lib.hid hck
  have HNO := Lib.hid (fun W (h : PrL W) => notesOf_any T D wn W h hl hv)
  have HP := Lib.hid hp
  clear hp hl hs hk hv hck e1 hcl
  go_enter Tryd.func49, Tryd.ntmps49
  go_wp2_with ((show wpList _ _ _ (⟨_, .load _ _, _, _, _, _⟩ :: _) _ _); refine wpList_load_mid rfl 38 _ rfl w.heap.size 0 rfl (tmV T) _ HR.out.all Tryd.underlying38 rfl HI2.out ?_)
  refine (HCK.out _).mono ?_
  rintro e w1 ⟨he, hb1⟩
  subst he
  have HR1 := Lib.hid (HR.out.up hb1)
  have HB1 := Lib.hid (HB.out.trans (hb1.mono HB.out.size))
  clear hb1 HR HB HCK
  go_wp2_with fail
  refine (HCL.out _).mono ?_
  rintro e w2 ⟨he, hw⟩
  subst he
  subst hw
  go_wp2_with ((show wpList _ _ _ (⟨_, .load _ _, _, _, _, _⟩ :: _) _ _); refine wpList_load_mid rfl 38 _ rfl w.heap.size 0 rfl (tmV T) _ HR1.out.all Tryd.underlying38 rfl HI2.out ?_)
  refine (HNO.out _ (HP.out.below HB1.out)).mono ?_
  rintro e w3 ⟨N, hN, he, hb3⟩
  subst he
  have HBB := Lib.hid (HB1.out.trans (hb3.mono HB1.out.size))
  obtain ⟨a, ha, -⟩ := hN.at (c := c) hc
  obtain ⟨b, hb, -⟩ := hN.at (c := (c + 4) % 12) (by omega)
  obtain ⟨d, hd, -⟩ := hN.at (c := (c + 7) % 12) (by omega)
  have HTR := Lib.hid (fun W (h : PrL W) => triad_any N c a b d W h hN.1 hc ha hb hd)
  have HN := Lib.hid hN
  have HA := Lib.hid ha
  have HBN := Lib.hid hb
  have HD := Lib.hid hd
  clear hb3 hN ha hb hd HR1 HB1 HNO
  go_wp2_with fail
  refine (HTR.out _ (HP.out.below HBB.out)).mono ?_
  rintro e w4 ⟨m1, m2, ht, he, hb4⟩
  subst he
  have HB4 := Lib.hid (HBB.out.trans (hb4.mono HBB.out.size))
  have HT := Lib.hid ht
  clear hb4 ht HBB
  go_wp2_with fail
  go_ret3
  exact ⟨N, a, b, d, m1, m2, HN.out, HA.out, HBN.out, HD.out, HT.out, rfl, HB4.out⟩
end Go.Proofs.YtkoghdgfllichaaDoor.Tp
namespace Go.Proofs.YtkoghdgfllichaaDoor.Tp
open Go.RowKit

theorem foldIs_low {v : V6} {D K : Int} {r : Rt} (h1 : 1 ≤ D) (h2 : D ≤ 120) (hb : v.bd 50000) (h : FoldIs (lowR v D) r) (hK : FlIs v 1 D K) (k1 : -100 ≤ K) (k2 : K ≤ 100) : r = lowR (v.two (-(K * D))) D := by
  obtain ⟨m, hm, hr⟩ := h (lowR_ok h1 (by omega) (hb.mono (by omega)))
  rw [low_FlIs (by omega)] at hm
  have e := hm.unique (by omega) hK
  subst e
  have hb2 : (v.two (-(m * D))).bd 100000 := by
    have h3 := mulD_bd h1 h2 k1 k2
    exact (hb.two (N := 12000) (by omega) (by omega)).mono (by omega)
  have e2 : foR (lowR v D) m = lowR (v.two (-(m * D))) D := by unfold foR; rw [low_fold (by omega)]
  rw [← e2]
  refine hr ?_
  rw [e2]
  exact (lowR_ok h1 (by omega) hb2).fit
theorem cent_low {v : V6} {D m M : Int} (h1 : 1 ≤ D) (h2 : D ≤ 120) (hb : v.bd 1000) (h : CentIs (lowR v D) m) (hM : FlIs v 1200000 D M) : m = M := by
  have hok := lowR_ok h1 (show D ≤ 1000 by omega) (hb.mono (show (1000 : Int) ≤ 100000 by omega))
  obtain ⟨b, er, hw⟩ := h hok
  have hd := hok.bds.2.1
  have hB : ∀ n ∈ (lowR v D).v.l, n.natAbs ≤ 1000 := by
    obtain ⟨b1, b2, b3, b4, b5, b6⟩ := hb
    have q : ∀ x : Int, (-1000 ≤ x ∧ x ≤ 1000) → (x.tdiv (v.gs D)).natAbs ≤ 1000 := fun x hx => by have := tdiv_bd (G := v.gs D) hx; omega
    show ∀ n ∈ [v.a.tdiv (v.gs D), v.b.tdiv (v.gs D), v.c.tdiv (v.gs D), v.d.tdiv (v.gs D), v.e.tdiv (v.gs D), v.f.tdiv (v.gs D)], _
    simp only [List.mem_cons, List.not_mem_nil, or_false, forall_eq_or_imp, forall_eq]
    exact ⟨q _ b1, q _ b2, q _ b3, q _ b4, q _ b5, q _ b6⟩
  exact (cents_val (by omega) (by omega) hB (by omega) hw ((low_FlIs (by omega)).2 hM)).2.1
theorem Sg_a {a b c : Nat} (h : 3 ^ b * 5 ^ c < 2 ^ a) : 0 < Sg ⟨(a : Int), -(b : Int), -(c : Int), 0, 0, 0⟩ := by
  unfold Sg
  rw [sgn_up]
  · omega
  · show 2 ^ (-(a : Int)).toNat * (3 ^ (- -(b : Int)).toNat * (5 ^ (- -(c : Int)).toNat * 1)) < 2 ^ (a : Int).toNat * (3 ^ (-(b : Int)).toNat * (5 ^ (-(c : Int)).toNat * 1))
    rw [Int.neg_neg, Int.neg_neg, Int.toNat_natCast, Int.toNat_natCast, Int.toNat_natCast, show (-(a : Int)).toNat = 0 by omega, show (-(b : Int)).toNat = 0 by omega, show (-(c : Int)).toNat = 0 by omega]
    simpa using h
theorem Sg_b {a b c : Nat} (h : 2 ^ a < 3 ^ b * 5 ^ c) : Sg ⟨(a : Int), -(b : Int), -(c : Int), 0, 0, 0⟩ < 0 := by
  unfold Sg
  rw [sgn_lt]
  show 2 ^ (a : Int).toNat * (3 ^ (-(b : Int)).toNat * (5 ^ (-(c : Int)).toNat * 1)) < 2 ^ (-(a : Int)).toNat * (3 ^ (- -(b : Int)).toNat * (5 ^ (- -(c : Int)).toNat * 1))
  rw [Int.neg_neg, Int.neg_neg, Int.toNat_natCast, Int.toNat_natCast, Int.toNat_natCast, show (-(a : Int)).toNat = 0 by omega, show (-(b : Int)).toNat = 0 by omega, show (-(c : Int)).toNat = 0 by omega]
  simpa using h
theorem Sg_a3 {a1 a2 a3 b c : Nat} (h : 3 ^ b * 5 ^ c < 2 ^ a1 * 2 ^ a2 * 2 ^ a3) : 0 < Sg ⟨((a1 + a2 + a3 : Nat) : Int), -(b : Int), -(c : Int), 0, 0, 0⟩ := Sg_a (by rw [Nat.pow_add, Nat.pow_add]; exact h)
theorem Sg_b3 {a1 a2 a3 b c : Nat} (h : 2 ^ a1 * 2 ^ a2 * 2 ^ a3 < 3 ^ b * 5 ^ c) : Sg ⟨((a1 + a2 + a3 : Nat) : Int), -(b : Int), -(c : Int), 0, 0, 0⟩ < 0 := Sg_b (by rw [Nat.pow_add, Nat.pow_add]; exact h)
theorem Sg_c {a c : Nat} (h : 2 ^ a < 5 ^ c) : 0 < Sg ⟨-(a : Int), 0, (c : Int), 0, 0, 0⟩ := by
  unfold Sg
  rw [sgn_up]
  · omega
  · show 2 ^ (- -(a : Int)).toNat * (1 * (5 ^ (-(c : Int)).toNat * 1)) < 2 ^ (-(a : Int)).toNat * (1 * (5 ^ (c : Int).toNat * 1))
    rw [Int.neg_neg, Int.toNat_natCast, Int.toNat_natCast, show (-(a : Int)).toNat = 0 by omega, show (-(c : Int)).toNat = 0 by omega]
    simpa using h
theorem Sg_d {a c : Nat} (h : 5 ^ c < 2 ^ a) : Sg ⟨-(a : Int), 0, (c : Int), 0, 0, 0⟩ < 0 := by
  unfold Sg
  rw [sgn_lt]
  show 2 ^ (-(a : Int)).toNat * (1 * (5 ^ (c : Int).toNat * 1)) < 2 ^ (- -(a : Int)).toNat * (1 * (5 ^ (-(c : Int)).toNat * 1))
  rw [Int.neg_neg, Int.toNat_natCast, Int.toNat_natCast, show (-(a : Int)).toNat = 0 by omega, show (-(c : Int)).toNat = 0 by omega]
  simpa using h
theorem fl_third : FlIs ⟨-8, 0, 4, 0, 0, 0⟩ 1200000 4 386313 := by
  have e1 : ((V6.scl 1200000 ⟨-8, 0, 4, 0, 0, 0⟩).two (-(386313 * 4))) = ⟨-((11145252 : Nat) : Int), 0, ((4800000 : Nat) : Int), 0, 0, 0⟩ := by unfold V6.scl V6.two; apply V6.eq <;> simp only <;> omega
  have e2 : ((V6.scl 1200000 ⟨-8, 0, 4, 0, 0, 0⟩).two (-((386313 + 1) * 4))) = ⟨-((11145256 : Nat) : Int), 0, ((4800000 : Nat) : Int), 0, 0, 0⟩ := by unfold V6.scl V6.two; apply V6.eq <;> simp only <;> omega
  constructor
  · unfold Fl; rw [e1]; exact Int.le_of_lt (Sg_c (by decide +kernel))
  · unfold Fl; rw [e2]; exact Sg_d (by decide +kernel)
theorem fl_fifth : FlIs ⟨0, 0, 1, 0, 0, 0⟩ 1200000 4 696578 := by
  have e1 : ((V6.scl 1200000 ⟨0, 0, 1, 0, 0, 0⟩).two (-(696578 * 4))) = ⟨-((2786312 : Nat) : Int), 0, ((1200000 : Nat) : Int), 0, 0, 0⟩ := by unfold V6.scl V6.two; apply V6.eq <;> simp only <;> omega
  have e2 : ((V6.scl 1200000 ⟨0, 0, 1, 0, 0, 0⟩).two (-((696578 + 1) * 4))) = ⟨-((2786316 : Nat) : Int), 0, ((1200000 : Nat) : Int), 0, 0, 0⟩ := by unfold V6.scl V6.two; apply V6.eq <;> simp only <;> omega
  constructor
  · unfold Fl; rw [e1]; exact Int.le_of_lt (Sg_c (by decide +kernel))
  · unfold Fl; rw [e2]; exact Sg_d (by decide +kernel)
theorem fl_third8 : FlIs ⟨28, 0, -12, 0, 0, 0⟩ 1200000 4 41058 := by
  have e1 : ((V6.scl 1200000 ⟨28, 0, -12, 0, 0, 0⟩).two (-(41058 * 4))) = V6.scl 4 ⟨((8358942 : Nat) : Int), -((0 : Nat) : Int), -((3600000 : Nat) : Int), 0, 0, 0⟩ := by unfold V6.scl V6.two; apply V6.eq <;> simp only <;> omega
  have e2 : ((V6.scl 1200000 ⟨28, 0, -12, 0, 0, 0⟩).two (-((41058 + 1) * 4))) = V6.scl 4 ⟨((8358941 : Nat) : Int), -((0 : Nat) : Int), -((3600000 : Nat) : Int), 0, 0, 0⟩ := by unfold V6.scl V6.two; apply V6.eq <;> simp only <;> omega
  constructor
  · unfold Fl; rw [e1, Sg_scl _ _ (by omega)]; exact Int.le_of_lt (Sg_a (by decide +kernel))
  · unfold Fl; rw [e2, Sg_scl _ _ (by omega)]; exact Sg_b (by decide +kernel)
theorem fl_fifth8 : FlIs ⟨32, -4, -11, 0, 0, 0⟩ 1200000 4 35682 := by
  have e1 : ((V6.scl 1200000 ⟨32, -4, -11, 0, 0, 0⟩).two (-(35682 * 4))) = ⟨((12752424 + 12752424 + 12752424 : Nat) : Int), -((4800000 : Nat) : Int), -((13200000 : Nat) : Int), 0, 0, 0⟩ := by unfold V6.scl V6.two; apply V6.eq <;> simp only <;> omega
  have e2 : ((V6.scl 1200000 ⟨32, -4, -11, 0, 0, 0⟩).two (-((35682 + 1) * 4))) = ⟨((12752424 + 12752424 + 12752420 : Nat) : Int), -((4800000 : Nat) : Int), -((13200000 : Nat) : Int), 0, 0, 0⟩ := by unfold V6.scl V6.two; apply V6.eq <;> simp only <;> omega
  constructor
  · unfold Fl; rw [e1]; exact Int.le_of_lt (Sg_a3 (by decide +kernel))
  · unfold Fl; rw [e2]; exact Sg_b3 (by decide +kernel)
theorem std2_chk : chkT std2 = 0 := by decide +kernel
theorem std2_lc : lcL std2.ps = 4 := by decide +kernel
theorem std2_vd : Vd std2 4 8 := by
  obtain ⟨D, wn, hD, hv⟩ := chk_vd (T := std2) rfl std2_chk
  rw [std2_lc] at hD
  obtain rfl : D = 4 := hD
  have h1 : (8 : Int) = (wn : Int) := hv.wo
  obtain rfl : wn = 8 := by omega
  exact hv
theorem m_s0 : PS (FF 4 (fN std2 4) 8) 0 = octV 0 := rfl
theorem m_s1 : PS (FF 4 (fN std2 4) 8) 1 = ⟨0, 0, 1, 0, 0, 0⟩ := rfl
theorem m_s4 : PS (FF 4 (fN std2 4) 8) 4 = ⟨0, 0, 4, 0, 0, 0⟩ := rfl
theorem m_s8 : PS (FF 4 (fN std2 4) 8) 8 = ⟨0, 0, 8, 0, 0, 0⟩ := rfl
theorem m_s9 : PS (FF 4 (fN std2 4) 8) 9 = ⟨28, 0, -3, 0, 0, 0⟩ := rfl
theorem note_val {i : Nat} {r : Rt} {v u : V6} {K : Int} (h : NoteIs 4 (fN std2 4) 8 i r) (hv : PS (FF 4 (fN std2 4) 8) i = v) (hK : FlIs v 1 4 K) (hu : v.two (-(K * 4)) = u) : r = lowR u 4 := by
  obtain ⟨k, hk, e⟩ := h
  rw [hv] at hk e
  have := hk.unique (by omega) hK
  subst this
  rw [e, hu]
theorem k_0 : FlIs (octV 0) 1 4 0 := ⟨by unfold Fl; exact Sg_up _ (by decide), by unfold Fl Sg; rw [sgn_lt]; decide⟩
theorem k_1 : FlIs ⟨0, 0, 1, 0, 0, 0⟩ 1 4 0 := ⟨by unfold Fl; exact Sg_up _ (by decide), by unfold Fl Sg; rw [sgn_lt]; decide⟩
theorem k_4 : FlIs ⟨0, 0, 4, 0, 0, 0⟩ 1 4 2 := ⟨by unfold Fl; exact Sg_up _ (by decide), by unfold Fl Sg; rw [sgn_lt]; decide⟩
theorem k_8 : FlIs ⟨0, 0, 8, 0, 0, 0⟩ 1 4 4 := ⟨by unfold Fl; exact Sg_up _ (by decide), by unfold Fl Sg; rw [sgn_lt]; decide⟩
theorem k_9 : FlIs ⟨28, 0, -3, 0, 0, 0⟩ 1 4 5 := ⟨by unfold Fl; exact Sg_up _ (by decide), by unfold Fl Sg; rw [sgn_lt]; decide⟩
theorem k_t : FlIs ⟨16, 0, -8, 0, 0, 0⟩ 1 4 (-1) := ⟨by unfold Fl; exact Sg_up _ (by decide), by unfold Fl Sg; rw [sgn_lt]; decide⟩
theorem k_f : FlIs ⟨24, 0, -11, 0, 0, 0⟩ 1 4 (-1) := ⟨by unfold Fl; exact Sg_up _ (by decide), by unfold Fl Sg; rw [sgn_lt]; decide⟩
theorem bd_of {a b c M : Int} (h : (-M ≤ a ∧ a ≤ M) ∧ (-M ≤ b ∧ b ≤ M) ∧ (-M ≤ c ∧ c ≤ M)) (h0 : 0 ≤ M) : V6.bd ⟨a, b, c, 0, 0, 0⟩ M := by unfold V6.bd; simp only; omega
theorem both_val {u v z : V6} {s : Int} (hz : u.add (V6.scl s v) = z) (hu : u.bd 100000) (hv : v.bd 100000) (hb : z.bd 100000) : (bothW (lowR u 4) (lowR v 4) s).1 = lowR z 4 := by
  rw [both_low (by omega) (by omega) hu hv (by rw [hz]; exact hb), hz]
/-- The numbers that awake asks for. -/
theorem mean_cents {N : List Rt} {M : List Int} (hN : NotesL 4 (fN std2 4) 8 12 N) (hM : CenL N 0 12 M) : M[4]? = some 386313 ∧ M[7]? = some 696578 := by
  constructor
  · obtain ⟨r, h1, h2⟩ := hN.at (c := 4) (by omega)
    obtain ⟨r', x, h3, h4, h5⟩ := hM.2 4 (by omega)
    rw [h1] at h3
    cases h3
    have hr := note_val h2 m_s4 k_4 (u := ⟨-8, 0, 4, 0, 0, 0⟩) rfl
    rw [hr, Int.zero_mul, Int.add_zero] at h5
    rw [h4, cent_low (by omega) (by omega) (bd_of (by omega) (by omega)) h5 fl_third]
  · obtain ⟨r, h1, h2⟩ := hN.at (c := 7) (by omega)
    obtain ⟨r', x, h3, h4, h5⟩ := hM.2 7 (by omega)
    rw [h1] at h3
    cases h3
    have hr := note_val h2 m_s1 k_1 (u := ⟨0, 0, 1, 0, 0, 0⟩) rfl
    rw [hr, Int.zero_mul, Int.add_zero] at h5
    rw [h4, cent_low (by omega) (by omega) (bd_of (by omega) (by omega)) h5 fl_fifth]
theorem mean_triad {N : List Rt} {a b d : Rt} {m1 m2 : Int} (hN : NotesL 4 (fN std2 4) 8 12 N) (ha : N[8]? = some a) (hb : N[(8 + 4) % 12]? = some b) (hd : N[(8 + 7) % 12]? = some d) (h : TriR a b d m1 m2) : m1 = 41058 ∧ m2 = 35682 := by
  obtain ⟨r, s, f1, c1, f2, c2⟩ := h
  obtain ⟨a', ha', na⟩ := hN.at (c := 8) (by omega)
  obtain ⟨b', hb', nb⟩ := hN.at (c := (8 + 4) % 12) (by omega)
  obtain ⟨d', hd', nd⟩ := hN.at (c := (8 + 7) % 12) (by omega)
  rw [ha] at ha'; cases ha'
  rw [hb] at hb'; cases hb'
  rw [hd] at hd'; cases hd'
  have ea := note_val na m_s8 k_8 (u := ⟨-16, 0, 8, 0, 0, 0⟩) rfl
  have eb := note_val nb m_s0 k_0 (u := ⟨0, 0, 0, 0, 0, 0⟩) rfl
  have ed := note_val nd m_s9 k_9 (u := ⟨8, 0, -3, 0, 0, 0⟩) rfl
  subst ea eb ed
  have e5 : (ofW 5 4).1 = lowR ⟨-8, 0, 4, 0, 0, 0⟩ 4 := of_low 4 (by omega) of_54
  have e3 : (ofW 3 2).1 = lowR ⟨-4, 4, 0, 0, 0, 0⟩ 4 := of_low 4 (by omega) of_32
  rw [both_val (u := ⟨0, 0, 0, 0, 0, 0⟩) (v := ⟨-16, 0, 8, 0, 0, 0⟩) (z := ⟨16, 0, -8, 0, 0, 0⟩) rfl (bd_of (by omega) (by omega)) (bd_of (by omega) (by omega)) (bd_of (by omega) (by omega))] at f1
  rw [both_val (u := ⟨8, 0, -3, 0, 0, 0⟩) (v := ⟨-16, 0, 8, 0, 0, 0⟩) (z := ⟨24, 0, -11, 0, 0, 0⟩) rfl (bd_of (by omega) (by omega)) (bd_of (by omega) (by omega)) (bd_of (by omega) (by omega))] at f2
  have er : r = lowR ⟨20, 0, -8, 0, 0, 0⟩ 4 := foldIs_low (v := ⟨16, 0, -8, 0, 0, 0⟩) (by omega) (by omega) (bd_of (by omega) (by omega)) f1 k_t (by omega) (by omega)
  have es : s = lowR ⟨28, 0, -11, 0, 0, 0⟩ 4 := foldIs_low (v := ⟨24, 0, -11, 0, 0, 0⟩) (by omega) (by omega) (bd_of (by omega) (by omega)) f2 k_f (by omega) (by omega)
  rw [er, e5, both_val (u := ⟨20, 0, -8, 0, 0, 0⟩) (v := ⟨-8, 0, 4, 0, 0, 0⟩) (z := ⟨28, 0, -12, 0, 0, 0⟩) rfl (bd_of (by omega) (by omega)) (bd_of (by omega) (by omega)) (bd_of (by omega) (by omega))] at c1
  rw [es, e3, both_val (u := ⟨28, 0, -11, 0, 0, 0⟩) (v := ⟨-4, 4, 0, 0, 0, 0⟩) (z := ⟨32, -4, -11, 0, 0, 0⟩) rfl (bd_of (by omega) (by omega)) (bd_of (by omega) (by omega)) (bd_of (by omega) (by omega))] at c2
  exact ⟨cent_low (v := ⟨28, 0, -12, 0, 0, 0⟩) (by omega) (by omega) (bd_of (by omega) (by omega)) c1 fl_third8, cent_low (v := ⟨32, -4, -11, 0, 0, 0⟩) (by omega) (by omega) (bd_of (by omega) (by omega)) c2 fl_fifth8⟩
end Go.Proofs.YtkoghdgfllichaaDoor.Tp
