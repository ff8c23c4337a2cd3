import Derived.Test.YtkoghdgfllichaaDoorPB7
import Derived.Test.YtkoghdgfllichaaDoorPBC
namespace Go.Proofs.YtkoghdgfllichaaDoor.Pc
open Go.RowKit Tp

/-! The law on octaves. -/
theorem zero_v (u : V6) (D : Int) : (lowR (u.add (V6.scl (-1) u)) D).v = octV 0 := by
  have e : u.add (V6.scl (-1) u) = octV 0 := by unfold V6.add V6.scl octV; apply V6.eq <;> simp only <;> omega
  rw [e]
  show (octV 0).quo _ = octV 0
  unfold V6.quo octV
  simp
theorem fast_same (p : Nat) (t0 : Int) : ex p (fastL t0 t0) = 0 := by
  unfold fastL
  rw [show ([((273150 + t0).toNat, 1), ((273150 + t0).toNat, -1)] : List (Nat × Int)) = [((273150 + t0).toNat, 1)] ++ [((273150 + t0).toNat, -1)] from rfl, ex_append, ex_of p _ (-1)]
  omega
theorem nr69_zero {D : Int} {F : Nat → V6} {wn : Nat} {N : List Rt} (h : Circ D F wn) (hN : NotesL D F wn 12 N) (p : Nat) : ex p (nr N 69).v.zl = 0 := by
  obtain ⟨y, e2, k, hk, rfl⟩ := hN.at (c := 9) (by omega)
  have hd1 := h.d1
  have hd2 := h.d2
  have hbd := h.note_bd (i := 7 * 9 % 12) (j := 7 * 9 % 12) (by omega) (by omega) hk
  have e : nr N 69 = noR (lowR ((PS (FF D F wn) (7 * 9 % 12)).two (-(k * D))) D) (lowR ((PS (FF D F wn) (7 * 9 % 12)).two (-(k * D))) D) 69 := by
    unfold nr; rw [show 69 % 12 = 9 from rfl, e2]; rfl
  rw [e]
  generalize (PS (FF D F wn) (7 * 9 % 12)).two (-(k * D)) = u at *
  have hz : (u.add (V6.scl (-1) u)).bd 100000 := by
    have e : u.add (V6.scl (-1) u) = octV 0 := by unfold V6.add V6.scl octV; apply V6.eq <;> simp only <;> omega
    rw [e]; exact octV_bd (by omega) (by omega)
  have hbo := both_low (s := -1) hd1 (by omega) (hbd.mono (show (60000 : Int) ≤ 100000 by omega)) (hbd.mono (show (60000 : Int) ≤ 100000 by omega)) hz
  unfold noR
  rw [hbo]
  simp only
  rw [zero_v, show (((69 : Nat) : Int) / 12 - 5) = 0 by decide, Int.zero_mul, V6.two_zero]
  rw [ex_zl]
  unfold octV
  simp
theorem freq_self {D : Int} {F : Nat → V6} {wn : Nat} {N : List Rt} {A : Nat} {t0 m k : Int} (h : Circ D F wn) (hN : NotesL D F wn 12 N) (hA1 : 1 ≤ A) (hA2 : A ≤ 1000000) (h1 : -20000 ≤ t0) (h2 : t0 ≤ 50000)
    (hs : SpanIs (PwF (fqL A t0 t0 (nr N 69)) (fqD (nr N 69)) 1) m k) : m = (A : Int) ∧ k = (A : Int) := by
  obtain ⟨-, -, -, -, -, -, -, -, -, hR⟩ := nr_ok (n := 69) h hN (by omega)
  have hp := fq_pos (t := t0) hR hA1 hA2 h1 h2 h1 h2
  have hd : 1 ≤ fqD (nr N 69) := by have := hR.d1; unfold fqD; omega
  have h0 : PwF (fqL A t0 t0 (nr N 69)) (fqD (nr N 69)) 1 (A : Int) = 0 := by
    unfold PwF
    rw [if_neg (by omega), Int.toNat_natCast, sgn_ex (l' := [(1, fqD (nr N 69))]) (posN_pw hp (by omega) hA1) (posN_cons.2 ⟨by show 1 ≤ 1; omega, posN_nil⟩) (fun p => ?_)]
    · refine sgn_zero ?_
      show 1 ^ _ * 1 = 1 ^ _ * 1
      rw [Nat.one_pow, Nat.one_pow]
    · rw [ex_append, ex_append, ex_fq, nr69_zero h hN, fast_same, ex_of p A (-(fqD (nr N 69)))]
      unfold fqD
      grind
  have aF : ∀ x y, 0 ≤ x → x < y → 0 ≤ PwF (fqL A t0 t0 (nr N 69)) (fqD (nr N 69)) 1 y → 0 < PwF (fqL A t0 t0 (nr N 69)) (fqD (nr N 69)) 1 x := fun x y a b c => PwF_anti hp hd (by omega) a b c
  obtain ⟨f1, f2, f3, f4, f5⟩ := hs
  have a1 : ¬ m < (A : Int) := fun hc => by
    rcases Int.lt_or_le (m + 1) (A : Int) with hc2 | hc2
    · have := aF (m + 1) A (by omega) hc2 (by omega); omega
    · have e : m + 1 = (A : Int) := by omega
      rw [e] at f4; omega
  have a2 : ¬ (A : Int) < m := fun hc => by have := aF A m (by omega) hc f3; omega
  have e : m = (A : Int) := by omega
  subst e
  rcases f5 with ⟨_, e⟩ | ⟨e, _⟩
  · exact ⟨rfl, e⟩
  · exact absurd h0 e
/-- What an octave does to both spans. -/
theorem oct_freq {D : Int} {F : Nat → V6} {wn n A : Nat} {N N' : List Rt} {t0 t m k m' k' : Int} (h : Circ D F wn) (hN : NotesL D F wn 12 N) (hN' : NotesL D F wn 12 N') (hn : n + 12 ≤ 139) (hA1 : 100000 ≤ A) (hA2 : A ≤ 1000000) (h1 : -20000 ≤ t0) (h2 : t0 ≤ 50000) (h3 : -20000 ≤ t) (h4 : t ≤ 50000)
    (hs : SpanIs (PwF (fqL A t0 t (nr N n)) (fqD (nr N n)) 1) m k) (hs' : SpanIs (PwF (fqL A t0 t (nr N' (n + 12))) (fqD (nr N' (n + 12))) 1) m' k') :
    m ≤ k ∧ m' ≤ k' ∧ 0 ≤ m ∧ k < 1099511627776 ∧ (m' = 2 * m ∨ m' = 2 * m + 1) ∧ (k' = 2 * k ∨ k' = 2 * k - 1) ∧ (m < k ∨ m' = k') := by
  have e := notes_uniq h.d1 hN hN'
  subst e
  obtain ⟨x, y, e1, e2, e3, -, -, -, -, hR⟩ := nr_ok (n := n) h hN (by omega)
  obtain ⟨x', y', e1', e2', e3', -, -, -, -, hR'⟩ := nr_ok (n := n + 12) h hN (by omega)
  rw [show (n + 12) % 12 = n % 12 by omega, e1] at e1'
  cases e1'
  rw [e2] at e2'
  cases e2'
  have ho := noR_oct x y n
  rw [← e3, ← e3'] at ho
  have p1 := fq_pos hR (by omega) hA2 h1 h2 h3 h4
  have p2 := fq_pos hR' (by omega) hA2 h1 h2 h3 h4
  have hd1 : 1 ≤ fqD (nr N (n + 12)) := by have := hR'.d1; unfold fqD; omega
  have ed : fqD (nr N (n + 12)) = fqD (nr N n) := by unfold fqD; rw [ho.1]
  exact span_dbl hs hs' (fun x y a b c => PwF_anti p2 hd1 (by omega) a b c) (fun x hx => by
    rw [ed]
    exact PwF_dbl p1 p2 (by omega) (fun p => fq_oct ho.1 ho.2 p) hx)
theorem oct_wave {D : Int} {F : Nat → V6} {wn n A : Nat} {N N' : List Rt} {t0 m k m' k' : Int} (h : Circ D F wn) (hN : NotesL D F wn 12 N) (hN' : NotesL D F wn 12 N') (hn : n + 12 ≤ 139) (hA1 : 100000 ≤ A) (hA2 : A ≤ 1000000) (h1 : -20000 ≤ t0) (h2 : t0 ≤ 50000)
    (hs : SpanIs (PwF (wvL A t0 (nr N n)) (wvD (nr N n)) 331300000000) m k) (hs' : SpanIs (PwF (wvL A t0 (nr N' (n + 12))) (wvD (nr N' (n + 12))) 331300000000) m' k') :
    m' ≤ k' ∧ m ≤ k ∧ 0 ≤ m' ∧ k' < 1099511627776 ∧ (m = 2 * m' ∨ m = 2 * m' + 1) ∧ (k = 2 * k' ∨ k = 2 * k' - 1) ∧ (m' < k' ∨ m = k) := by
  have e := notes_uniq h.d1 hN hN'
  subst e
  obtain ⟨x, y, e1, e2, e3, -, -, -, -, hR⟩ := nr_ok (n := n) h hN (by omega)
  obtain ⟨x', y', e1', e2', e3', -, -, -, -, hR'⟩ := nr_ok (n := n + 12) h hN (by omega)
  rw [show (n + 12) % 12 = n % 12 by omega, e1] at e1'
  cases e1'
  rw [e2] at e2'
  cases e2'
  have ho := noR_oct x y n
  rw [← e3, ← e3'] at ho
  have p1 := wv_pos (t0 := t0) hR (by omega) hA2 h1 h2
  have p2 := wv_pos (t0 := t0) hR' (by omega) hA2 h1 h2
  have hd1 : 1 ≤ wvD (nr N n) := by have := hR.d1; unfold wvD; omega
  have ed : wvD (nr N (n + 12)) = wvD (nr N n) := by unfold wvD; rw [ho.1]
  exact span_dbl hs' hs (fun x y a b c => PwF_anti p1 hd1 (by omega) a b c) (fun x hx => by
    rw [ed]
    exact PwF_dbl p2 p1 (by omega) (fun p => by rw [← ed]; exact wv_oct ho.1 ho.2 p) hx)
end Go.Proofs.YtkoghdgfllichaaDoor.Pc
namespace Go.Proofs.YtkoghdgfllichaaDoor.Pc
open Go.RowKit Tp

/-! The law on octaves, walked. -/
def IvP (w : World) (R : Int → Int → Prop) (e : Ending) (w' : World) : Prop := ∃ m k, R m k ∧ e = .returned (.tuple #[.agg #[.int .i64 m, .int .i64 k], .int .i64 0]) ∧ Below w.heap.size w w'
theorem cs_rows {w : World} {g : Nat} {ty : TypeId} {a t0 t : Int} {L : List Value} (h : RowV w g ty (.int .i64 a :: .int .i64 t0 :: .int .i64 t :: L)) : w.rangeAt g 0 [.int .i64 a, .int .i64 t0, .int .i64 t] ∧ w.rangeAt g 3 L := by
  constructor
  · intro j v hj
    refine h.all j v ?_
    match j, hj with
    | 0, hj => exact hj
    | 1, hj => exact hj
    | 2, hj => exact hj
  · intro j v hj
    have h1 := h.all (j + 3) v hj
    rw [Nat.zero_add] at h1
    rw [Nat.add_comm 3 j]
    exact h1
theorem row_set2 {w : World} {g : Nat} {ty : TypeId} {a t0 t x : Int} {L : List Value} (h : RowV w g ty (.int .i64 a :: .int .i64 t0 :: .int .i64 t :: L)) : RowV (w.setCell ⟨g, 2, none⟩ (.int .i64 x)) g ty (.int .i64 a :: .int .i64 t0 :: .int .i64 x :: L) := by
  have e : w.heap[g]? = some (.cells (.int .i64 a :: .int .i64 t0 :: .int .i64 t :: L).toArray ty (0, 0)) := h
  show (w.setCell _ _).heap[g]? = _
  simp [World.setCell, Array.getElem?_modify, e]
set_option maxRecDepth 100000 in
set_option maxHeartbeats 4000000 in
theorem lawOctaves_any (a t0 t : Int) (T : Tm) (n : Int) (w : World) (hp : PrL w) (hl : T.ps.length = 12) (hs : T.nm.size ≤ maxLen) : Calls Tryd.prog 5 #[.agg (csV a t0 t T).toArray, .int .i64 n] w fun e w' => e = .returned (.bool true) ∧ Below w.heap.size w w' := by
  have HSN := Lib.hid (fun n W => sound_any a t0 t T n W hl hs)
  have HP := Lib.hid hp
  have HI3 := Lib.hid (szCs (a := a) (t0 := t0) (t := t) hl)
  have HI2 := Lib.hid (szT hl)
  have HB := Lib.hid (belB w (.cells (csV a t0 t T).toArray 52))
  have HR := Lib.hid (RowV.of_alloc w 52 (csV a t0 t T))
  have HF := Lib.hid (fun (A k : Nat) W (h : PrL W) (hst : stdE (A : Int) t0 t = 0) (hk : chkT T = 0) (D : Int) (wn : Nat) (hv : Vd T D wn) (hk2 : k ≤ 139) => Freq_ok A t0 t T D wn k W h hst hl hs hk hv hk2)
  have HF0 := Lib.hid (fun (A k : Nat) W (h : PrL W) (hst : stdE (A : Int) t0 t0 = 0) (hk : chkT T = 0) (D : Int) (wn : Nat) (hv : Vd T D wn) (hk2 : k ≤ 139) => Freq_ok A t0 t0 T D wn k W h hst hl hs hk hv hk2)
  have HW := Lib.hid (fun (A k : Nat) W (h : PrL W) (hst : stdE (A : Int) t0 t = 0) (hk : chkT T = 0) (D : Int) (wn : Nat) (hv : Vd T D wn) (hk2 : k ≤ 139) => Wave_ok A t0 t T D wn k W h hst hl hs hk hv hk2)
  have HVD := Lib.hid (fun (h : chkT T = 0) => chk_vd (T := T) hl h)
  have hcs : csV a t0 t T = .int .i64 a :: .int .i64 t0 :: .int .i64 t :: tmV T := rfl
  clear hp hl hs
  generalize chkT T = C at *
  obtain ⟨CS, hCS⟩ : ∃ CS, CS = csV a t0 t T := ⟨_, rfl⟩
  rw [← hCS] at HSN HI3 HB HR hcs ⊢
  have HCS := Lib.hid hcs
  clear hcs hCS
  generalize hL : tmV T = L at *
  go_enter Tryd.func5, Tryd.ntmps5
  go_wp2_with ((show wpList _ _ _ (⟨_, .load _ _, _, _, _, _⟩ :: _) _ _); refine wpList_load_midw (by rfl) 52 _ rfl w.heap.size 0 rfl CS _ HR.out.all Tryd.underlying52 rfl HI3.out ?_)
  refine (HSN.out n _).mono ?_
  rintro e w1 ⟨⟨b1, he, hs1⟩, hb1⟩
  subst he
  have HR1 := Lib.hid (HR.out.up hb1)
  have HB1 := Lib.hid (HB.out.trans (hb1.mono HB.out.size))
  have HS1 := Lib.hid hs1
  clear hb1 hs1 HR HB
  cases b1
  · go_wp2_with fail
    refine (awake6_any _ (HP.out.below HB1.out)).mono ?_
    rintro e w2 ⟨he, hb2⟩
    subst he
    have HB2 := Lib.hid (HB1.out.trans (hb2.mono HB1.out.size))
    clear hb2
    go_wp2
    go_ret
    exact ⟨rfl, HB2.out⟩
  · have hs1 := HS1.out
    unfold SndIs at hs1
    obtain ⟨hE, hC, hn0, hn1⟩ := hs1.1 rfl
    have w12 : IntKind.i64.wrap (n + 12) = n + 12 := IntWalk.i64_in _ (by omega)
    have W12 := Lib.hid w12
    have HE := Lib.hid hE
    have HC := Lib.hid hC
    clear hs1 w12 hE hC HS1
    go_wp2_with ((show wpList _ _ _ (⟨_, .load _ _, _, _, _, _⟩ :: _) _ _); refine wpList_load_midw (by rfl) 52 _ rfl w.heap.size 0 rfl CS _ HR1.out.all Tryd.underlying52 rfl HI3.out ?_)
    (try rw [W12.out])
    refine (HSN.out (n + 12) _).mono ?_
    rintro e w2 ⟨⟨b2, he, hs2⟩, hb2⟩
    subst he
    have HR2 := Lib.hid (HR1.out.up hb2)
    have HB2 := Lib.hid (HB1.out.trans (hb2.mono HB1.out.size))
    have HS2 := Lib.hid hs2
    clear hb2 hs2 HR1 HB1
    cases b2
    · go_wp2_with fail
      refine (awake6_any _ (HP.out.below HB2.out)).mono ?_
      rintro e w3 ⟨he, hb3⟩
      subst he
      have HB3 := Lib.hid (HB2.out.trans (hb3.mono HB2.out.size))
      clear hb3
      go_wp2
      go_ret
      exact ⟨rfl, HB3.out⟩
    · have hs2 := HS2.out
      unfold SndIs at hs2
      obtain ⟨-, -, hm0, hm1⟩ := hs2.1 rfl
      obtain ⟨A, rfl⟩ : ∃ A : Nat, a = (A : Int) := by
        have hE := HE.out
        unfold stdE at hE
        split at hE
        · rename_i h
          exact ⟨a.toNat, by have := (stdB_iff.1 h).1; omega⟩
        · cases hE
      obtain ⟨k, rfl⟩ : ∃ k : Nat, n = (k : Int) := ⟨n.toNat, by omega⟩
      obtain ⟨D, wn, -, hv⟩ := HVD.out HC.out
      have hcirc := hv.circ
      have hst : stdB (A : Int) t0 t = true := by
        have h := HE.out
        unfold stdE at h
        split at h
        · assumption
        · cases h
      obtain ⟨hA, hT0, hT1⟩ := stdB_iff.1 hst
      have hE0 : stdE (A : Int) t0 t0 = 0 := by unfold stdE; rw [if_pos (stdB_iff.2 ⟨hA, hT0, hT0⟩)]
      have hA1 : 100000 ≤ A := by omega
      have hA2 : A ≤ 1000000 := by omega
      obtain ⟨F1, hF1⟩ : ∃ F : Int → Int → Prop, F = fun m j => ∃ N, NotesL D (fN T D) wn 12 N ∧ SpanIs (PwF (fqL A t0 t (nr N k)) (fqD (nr N k)) 1) m j := ⟨_, rfl⟩
      obtain ⟨F2, hF2⟩ : ∃ F : Int → Int → Prop, F = fun m j => ∃ N, NotesL D (fN T D) wn 12 N ∧ SpanIs (PwF (fqL A t0 t (nr N (k + 12))) (fqD (nr N (k + 12))) 1) m j := ⟨_, rfl⟩
      obtain ⟨F3, hF3⟩ : ∃ F : Int → Int → Prop, F = fun m j => ∃ N, NotesL D (fN T D) wn 12 N ∧ SpanIs (PwF (wvL A t0 (nr N k)) (wvD (nr N k)) 331300000000) m j := ⟨_, rfl⟩
      obtain ⟨F4, hF4⟩ : ∃ F : Int → Int → Prop, F = fun m j => ∃ N, NotesL D (fN T D) wn 12 N ∧ SpanIs (PwF (wvL A t0 (nr N (k + 12))) (wvD (nr N (k + 12))) 331300000000) m j := ⟨_, rfl⟩
      have e12 : ((k + 12 : Nat) : Int) = (k : Int) + 12 := by omega
      have C1 : ∀ W, PrL W → Calls Tryd.prog 25 #[.agg #[.int .i64 (A : Int), .int .i64 t0, .int .i64 t], .agg L.toArray, .int .i64 (k : Int)] W (IvP W F1) := fun W h => by
        refine (HF.out A k W h HE.out HC.out D wn hv (by omega)).mono ?_
        rintro e w' ⟨N, hN, m, j, hm, he, hb⟩
        exact ⟨m, j, by rw [hF1]; exact ⟨N, hN, hm⟩, he, hb⟩
      have C2 : ∀ W, PrL W → Calls Tryd.prog 25 #[.agg #[.int .i64 (A : Int), .int .i64 t0, .int .i64 t], .agg L.toArray, .int .i64 ((k : Int) + 12)] W (IvP W F2) := fun W h => by
        rw [← e12]
        refine (HF.out A (k + 12) W h HE.out HC.out D wn hv (by omega)).mono ?_
        rintro e w' ⟨N, hN, m, j, hm, he, hb⟩
        exact ⟨m, j, by rw [hF2]; exact ⟨N, hN, hm⟩, he, hb⟩
      have C3 : ∀ W, PrL W → Calls Tryd.prog 26 #[.agg #[.int .i64 (A : Int), .int .i64 t0, .int .i64 t], .agg L.toArray, .int .i64 (k : Int)] W (IvP W F3) := fun W h => by
        refine (HW.out A k W h HE.out HC.out D wn hv (by omega)).mono ?_
        rintro e w' ⟨N, hN, m, j, hm, he, hb⟩
        exact ⟨m, j, by rw [hF3]; exact ⟨N, hN, hm⟩, he, hb⟩
      have C4 : ∀ W, PrL W → Calls Tryd.prog 26 #[.agg #[.int .i64 (A : Int), .int .i64 t0, .int .i64 t], .agg L.toArray, .int .i64 ((k : Int) + 12)] W (IvP W F4) := fun W h => by
        rw [← e12]
        refine (HW.out A (k + 12) W h HE.out HC.out D wn hv (by omega)).mono ?_
        rintro e w' ⟨N, hN, m, j, hm, he, hb⟩
        exact ⟨m, j, by rw [hF4]; exact ⟨N, hN, hm⟩, he, hb⟩
      have C5 : ∀ W, PrL W → Calls Tryd.prog 25 #[.agg #[.int .i64 (A : Int), .int .i64 t0, .int .i64 t0], .agg L.toArray, .int .i64 69] W fun e w' => e = .returned (.tuple #[.agg #[.int .i64 (A : Int), .int .i64 (A : Int)], .int .i64 0]) ∧ Below W.heap.size W w' := fun W h => by
        refine (HF0.out A 69 W h hE0 HC.out D wn hv (by omega)).mono ?_
        rintro e w' ⟨N, hN, m, j, hm, he, hb⟩
        obtain ⟨rfl, rfl⟩ := freq_self hcirc hN (by omega) hA2 hT0.1 hT0.2 hm
        exact ⟨he, hb⟩
      have X1 : ∀ m j m' j', F1 m j → F2 m' j' → ∀ W, Calls Tryd.prog 27 #[.agg #[.int .i64 m, .int .i64 j], .agg #[.int .i64 m', .int .i64 j']] W fun e w' => ∃ v, e = .returned v ∧ v = .bool true ∧ Below W.heap.size W w' := fun m j m' j' h1 h2 W => by
        rw [hF1] at h1
        rw [hF2] at h2
        obtain ⟨N, hN, h1⟩ := h1
        obtain ⟨N', hN', h2⟩ := h2
        obtain ⟨a1, a2, a3, a4, a5, a6, a7⟩ := oct_freq hcirc hN hN' (by omega) hA1 hA2 hT0.1 hT0.2 hT1.1 hT1.2 h1 h2
        refine (doubles_any m j m' j' W a1 a2 a3 a4 a5 a6 a7).mono ?_
        rintro e w' ⟨he, hb⟩
        exact ⟨_, he, rfl, hb⟩
      have X2 : ∀ m j m' j', F3 m j → F4 m' j' → ∀ W, Calls Tryd.prog 27 #[.agg #[.int .i64 m', .int .i64 j'], .agg #[.int .i64 m, .int .i64 j]] W fun e w' => ∃ v, e = .returned v ∧ v = .bool true ∧ Below W.heap.size W w' := fun m j m' j' h1 h2 W => by
        rw [hF3] at h1
        rw [hF4] at h2
        obtain ⟨N, hN, h1⟩ := h1
        obtain ⟨N', hN', h2⟩ := h2
        obtain ⟨a1, a2, a3, a4, a5, a6, a7⟩ := oct_wave hcirc hN hN' (by omega) hA1 hA2 hT0.1 hT0.2 h1 h2
        refine (doubles_any m' j' m j W a1 a2 a3 a4 a5 a6 a7).mono ?_
        rintro e w' ⟨he, hb⟩
        exact ⟨_, he, rfl, hb⟩
      have HC1 := Lib.hid C1
      have HC2 := Lib.hid C2
      have HC3 := Lib.hid C3
      have HC4 := Lib.hid C4
      have HC5 := Lib.hid C5
      have HX1 := Lib.hid X1
      have HX2 := Lib.hid X2
      have HQ2 := Lib.hid (HCS.out ▸ HR2.out : RowV w2 w.heap.size 52 (.int .i64 (A : Int) :: .int .i64 t0 :: .int .i64 t :: L))
      have HI1 := Lib.hid (fun t => szStd (A : Int) t0 t)
      clear C1 C2 C3 C4 C5 X1 X2 hF1 hF2 hF3 hF4 hcirc hv hst hA hT0 hT1 hE0 HF HF0 HW HE HC HVD hs2 HS2 HSN HI3 e12 HR2 hA1 hA2 hL HCS
      go_wp2_with (first | ((show wpList _ _ _ (⟨_, .load _ _, _, _, _, _⟩ :: _) _ _); refine wpList_load_midw (by rfl) 50 _ rfl w.heap.size 0 rfl [.int .i64 (A : Int), .int .i64 t0, .int .i64 t] _ (cs_rows HQ2.out).1 Tryd.underlying50 rfl (HI1.out _) ?_) | ((show wpList _ _ _ (⟨_, .load _ _, _, _, _, _⟩ :: _) _ _); refine wpList_load_midw (by rfl) 38 _ rfl w.heap.size 3 rfl L _ (cs_rows HQ2.out).2 Tryd.underlying38 rfl HI2.out ?_))
      refine (HC1.out _ (HP.out.below HB2.out)).mono ?_
      rintro e u3 ⟨m1, j1, p1, he, hb⟩
      subst he
      have HQ3 := Lib.hid ((HQ2.out.up hb).alloc (.cells #[.int .i64 m1, .int .i64 j1] 55))
      have hbx := HB2.out.trans (hb.mono HB2.out.size)
      have HB3 := Lib.hid (hbx.alloc hbx.size (.cells #[.int .i64 m1, .int .i64 j1] 55))
      have hz3 := (HQ2.out.up hb).lt
      have I1_3 := Lib.hid (RowV.of_alloc u3 55 [.int .i64 m1, .int .i64 j1])
      clear hb hbx HQ2 HB2 HC1 
      go_wp2_with (first | ((show wpList _ _ _ (⟨_, .load _ _, _, _, _, _⟩ :: _) _ _); refine wpList_load_midw (by rfl) 50 _ rfl w.heap.size 0 rfl [.int .i64 (A : Int), .int .i64 t0, .int .i64 t] _ (cs_rows HQ3.out).1 Tryd.underlying50 rfl (HI1.out _) ?_) | ((show wpList _ _ _ (⟨_, .load _ _, _, _, _, _⟩ :: _) _ _); refine wpList_load_midw (by rfl) 38 _ rfl w.heap.size 3 rfl L _ (cs_rows HQ3.out).2 Tryd.underlying38 rfl HI2.out ?_))
      (try rw [W12.out])
      refine (HC2.out _ (HP.out.below HB3.out)).mono ?_
      rintro e u4 ⟨m2, j2, p2, he, hb⟩
      subst he
      have HQ4 := Lib.hid ((HQ3.out.up hb).alloc (.cells #[.int .i64 m2, .int .i64 j2] 55))
      have I1_4 := Lib.hid ((I1_3.out.up hb).alloc (.cells #[.int .i64 m2, .int .i64 j2] 55))
      have hbx := HB3.out.trans (hb.mono HB3.out.size)
      have HB4 := Lib.hid (hbx.alloc hbx.size (.cells #[.int .i64 m2, .int .i64 j2] 55))
      have hz4 := (HQ3.out.up hb).lt
      have I2_4 := Lib.hid (RowV.of_alloc u4 55 [.int .i64 m2, .int .i64 j2])
      clear hb hbx HQ3 HB3 HC2 I1_3
      go_wp2_with (first | ((show wpList _ _ _ (⟨_, .load _ _, _, _, _, _⟩ :: _) _ _); refine wpList_load_midw (by rfl) 50 _ rfl w.heap.size 0 rfl [.int .i64 (A : Int), .int .i64 t0, .int .i64 t] _ (cs_rows HQ4.out).1 Tryd.underlying50 rfl (HI1.out _) ?_) | ((show wpList _ _ _ (⟨_, .load _ _, _, _, _, _⟩ :: _) _ _); refine wpList_load_midw (by rfl) 38 _ rfl w.heap.size 3 rfl L _ (cs_rows HQ4.out).2 Tryd.underlying38 rfl HI2.out ?_))
      refine (HC3.out _ (HP.out.below HB4.out)).mono ?_
      rintro e u5 ⟨m3, j3, p3, he, hb⟩
      subst he
      have HQ5 := Lib.hid ((HQ4.out.up hb).alloc (.cells #[.int .i64 m3, .int .i64 j3] 55))
      have I1_5 := Lib.hid ((I1_4.out.up hb).alloc (.cells #[.int .i64 m3, .int .i64 j3] 55))
      have I2_5 := Lib.hid ((I2_4.out.up hb).alloc (.cells #[.int .i64 m3, .int .i64 j3] 55))
      have hbx := HB4.out.trans (hb.mono HB4.out.size)
      have HB5 := Lib.hid (hbx.alloc hbx.size (.cells #[.int .i64 m3, .int .i64 j3] 55))
      have hz5 := (HQ4.out.up hb).lt
      have I3_5 := Lib.hid (RowV.of_alloc u5 55 [.int .i64 m3, .int .i64 j3])
      clear hb hbx HQ4 HB4 HC3 I1_4 I2_4
      go_wp2_with (first | ((show wpList _ _ _ (⟨_, .load _ _, _, _, _, _⟩ :: _) _ _); refine wpList_load_midw (by rfl) 50 _ rfl w.heap.size 0 rfl [.int .i64 (A : Int), .int .i64 t0, .int .i64 t] _ (cs_rows HQ5.out).1 Tryd.underlying50 rfl (HI1.out _) ?_) | ((show wpList _ _ _ (⟨_, .load _ _, _, _, _, _⟩ :: _) _ _); refine wpList_load_midw (by rfl) 38 _ rfl w.heap.size 3 rfl L _ (cs_rows HQ5.out).2 Tryd.underlying38 rfl HI2.out ?_))
      (try rw [W12.out])
      refine (HC4.out _ (HP.out.below HB5.out)).mono ?_
      rintro e u6 ⟨m4, j4, p4, he, hb⟩
      subst he
      have HQ6 := Lib.hid ((HQ5.out.up hb).alloc (.cells #[.int .i64 m4, .int .i64 j4] 55))
      have I1_6 := Lib.hid ((I1_5.out.up hb).alloc (.cells #[.int .i64 m4, .int .i64 j4] 55))
      have I2_6 := Lib.hid ((I2_5.out.up hb).alloc (.cells #[.int .i64 m4, .int .i64 j4] 55))
      have I3_6 := Lib.hid ((I3_5.out.up hb).alloc (.cells #[.int .i64 m4, .int .i64 j4] 55))
      have hbx := HB5.out.trans (hb.mono HB5.out.size)
      have HB6 := Lib.hid (hbx.alloc hbx.size (.cells #[.int .i64 m4, .int .i64 j4] 55))
      have hz6 := (HQ5.out.up hb).lt
      have I4_6 := Lib.hid (RowV.of_alloc u6 55 [.int .i64 m4, .int .i64 j4])
      clear hb hbx HQ5 HB5 HC4 I1_5 I2_5 I3_5
      obtain ⟨V, hV⟩ : ∃ V, V = u6.alloc (.cells #[.int .i64 m4, .int .i64 j4] 55) := ⟨_, rfl⟩
      rw [← hV] at HQ6 HB6 I1_6 I2_6 I3_6 I4_6
      have HV := Lib.hid hV
      clear hV
      go_upto_region 7 with fail
      rw [← HV.out]
      clear HV
      have c1 := HQ6.out.cell (i := 1) rfl
      have c2 := HQ6.out.cell (i := 2) rfl
      have z2 := RowV.z (i := 2) HQ6.out
      have HQ7 := Lib.hid (row_set2 (x := t0) HQ6.out)
      have HB7 := Lib.hid (HB6.out.setCell (Nat.le_refl _) (.int .i64 t0) : Below w.heap.size w (V.setCell ⟨w.heap.size, 2, none⟩ (.int .i64 t0)))
      have I1_7 := Lib.hid (RowV.far (i := 2) (x := .int .i64 t0) I1_6.out (Nat.ne_of_gt hz3))
      have I2_7 := Lib.hid (RowV.far (i := 2) (x := .int .i64 t0) I2_6.out (Nat.ne_of_gt hz4))
      have I3_7 := Lib.hid (RowV.far (i := 2) (x := .int .i64 t0) I3_6.out (Nat.ne_of_gt hz5))
      have I4_7 := Lib.hid (RowV.far (i := 2) (x := .int .i64 t0) I4_6.out (Nat.ne_of_gt hz6))
      clear HQ6 HB6 I1_6 I2_6 I3_6 I4_6
      go_wp2_with (first | ((show wpList _ _ _ (⟨_, .load _ _, _, _, _, _⟩ :: _) _ _); refine wpList_load_midw (by rfl) 50 _ rfl w.heap.size 0 rfl [.int .i64 (A : Int), .int .i64 t0, .int .i64 t0] _ (cs_rows HQ7.out).1 Tryd.underlying50 rfl (HI1.out _) ?_) | ((show wpList _ _ _ (⟨_, .load _ _, _, _, _, _⟩ :: _) _ _); refine wpList_load_midw (by rfl) 38 _ rfl w.heap.size 3 rfl L _ (cs_rows HQ7.out).2 Tryd.underlying38 rfl HI2.out ?_))
      refine (HC5.out _ (HP.out.below HB7.out)).mono ?_
      rintro e u8 ⟨he, hb⟩
      subst he
      obtain ⟨W, hW⟩ : ∃ W, W = u8.alloc (.cells #[.int .i64 (A : Int), .int .i64 (A : Int)] 55) := ⟨_, rfl⟩
      have hbx := HB7.out.trans (hb.mono HB7.out.size)
      have HB8 : Hid (Below w.heap.size w W) := Lib.hid (by rw [hW]; exact hbx.alloc hbx.size _)
      have I1_8 : Hid (RowV W u3.heap.size 55 [.int .i64 m1, .int .i64 j1]) := Lib.hid (by rw [hW]; exact (I1_7.out.up hb).alloc _)
      have I2_8 : Hid (RowV W u4.heap.size 55 [.int .i64 m2, .int .i64 j2]) := Lib.hid (by rw [hW]; exact (I2_7.out.up hb).alloc _)
      have I3_8 : Hid (RowV W u5.heap.size 55 [.int .i64 m3, .int .i64 j3]) := Lib.hid (by rw [hW]; exact (I3_7.out.up hb).alloc _)
      have I4_8 : Hid (RowV W u6.heap.size 55 [.int .i64 m4, .int .i64 j4]) := Lib.hid (by rw [hW]; exact (I4_7.out.up hb).alloc _)
      have HQ8 : Hid (RowV W w.heap.size 52 (.int .i64 (A : Int) :: .int .i64 t0 :: .int .i64 t0 :: L)) := Lib.hid (by rw [hW]; exact (HQ7.out.up hb).alloc _)
      have I5_8 : Hid (RowV W u8.heap.size 55 [.int .i64 (A : Int), .int .i64 (A : Int)]) := Lib.hid (by rw [hW]; exact RowV.of_alloc u8 _ _)
      have HWE := Lib.hid hW
      clear hb hbx hW HQ7 HB7 I1_7 I2_7 I3_7 I4_7 HC5 c1 c2 z2
      go_upto_region 9 with fail
      rw [← HWE.out]
      clear HWE
      have cA := HQ8.out.cell (i := 0) rfl
      refine st_in ?_
      refine st_run (v := .int .i64 0) (.int .i64 0) (by kernel_rfl) (by kernel_rfl) rfl ?_
      simp only [Act.put, List.setIfInBounds_toArray, List.set_cons_zero, List.set_cons_succ]
      refine st_run (v := .bool false) (.bool false) (by kernel_rfl) (by kernel_rfl) rfl ?_
      simp only [Act.put, List.setIfInBounds_toArray, List.set_cons_zero, List.set_cons_succ]
      refine st_run (v := .bool false) (.bool false) (by kernel_rfl) (by kernel_rfl) rfl ?_
      simp only [Act.put, List.setIfInBounds_toArray, List.set_cons_zero, List.set_cons_succ]
      refine st_run (v := .int .i64 0) (.int .i64 0) (by kernel_rfl) (by kernel_rfl) rfl ?_
      simp only [Act.put, List.setIfInBounds_toArray, List.set_cons_zero, List.set_cons_succ]
      refine st_run (v := .bool false) (.bool false) (by kernel_rfl) (by kernel_rfl) rfl ?_
      simp only [Act.put, List.setIfInBounds_toArray, List.set_cons_zero, List.set_cons_succ]
      refine st_run (v := .bool false) (.bool false) (by kernel_rfl) (by kernel_rfl) rfl ?_
      simp only [Act.put, List.setIfInBounds_toArray, List.set_cons_zero, List.set_cons_succ]
      refine st_run (v := .bool false) (.bool false) (by kernel_rfl) (by kernel_rfl) rfl ?_
      simp only [Act.put, List.setIfInBounds_toArray, List.set_cons_zero, List.set_cons_succ]
      refine st_run (v := .int .i64 0) (.int .i64 0) (by kernel_rfl) (by kernel_rfl) rfl ?_
      simp only [Act.put, List.setIfInBounds_toArray, List.set_cons_zero, List.set_cons_succ]
      refine st_run (v := .bool false) (.bool false) (by kernel_rfl) (by kernel_rfl) rfl ?_
      simp only [Act.put, List.setIfInBounds_toArray, List.set_cons_zero, List.set_cons_succ]
      refine st_run (v := .bool false) (.bool false) (by kernel_rfl) (by kernel_rfl) rfl ?_
      simp only [Act.put, List.setIfInBounds_toArray, List.set_cons_zero, List.set_cons_succ]
      refine st_run (v := .bool false) (.bool false) (by kernel_rfl) (by kernel_rfl) rfl ?_
      simp only [Act.put, List.setIfInBounds_toArray, List.set_cons_zero, List.set_cons_succ]
      refine st_run (v := .int .i64 0) (.int .i64 0) (by kernel_rfl) (by kernel_rfl) rfl ?_
      simp only [Act.put, List.setIfInBounds_toArray, List.set_cons_zero, List.set_cons_succ]
      refine st_run (v := .bool false) (.bool false) (by kernel_rfl) (by kernel_rfl) rfl ?_
      simp only [Act.put, List.setIfInBounds_toArray, List.set_cons_zero, List.set_cons_succ]
      refine st_run (v := .bool false) (.bool false) (by kernel_rfl) (by kernel_rfl) rfl ?_
      simp only [Act.put, List.setIfInBounds_toArray, List.set_cons_zero, List.set_cons_succ]
      refine st_run (v := .bool false) (.bool false) (by kernel_rfl) (by kernel_rfl) rfl ?_
      simp only [Act.put, List.setIfInBounds_toArray, List.set_cons_zero, List.set_cons_succ]
      refine st_run (v := .int .i64 0) (.int .i64 0) (by kernel_rfl) (by kernel_rfl) rfl ?_
      simp only [Act.put, List.setIfInBounds_toArray, List.set_cons_zero, List.set_cons_succ]
      refine st_run (v := .bool false) (.bool false) (by kernel_rfl) (by kernel_rfl) rfl ?_
      simp only [Act.put, List.setIfInBounds_toArray, List.set_cons_zero, List.set_cons_succ]
      refine st_run (v := .bool false) (.bool false) (by kernel_rfl) (by kernel_rfl) rfl ?_
      simp only [Act.put, List.setIfInBounds_toArray, List.set_cons_zero, List.set_cons_succ]
      refine st_run (v := .bool false) (.bool false) (by kernel_rfl) (by kernel_rfl) rfl ?_
      simp only [Act.put, List.setIfInBounds_toArray, List.set_cons_zero, List.set_cons_succ]
      refine st_mid 55 (.tmp 13) (u8.heap.size) 0 ([.int .i64 (A : Int), .int .i64 (A : Int)]) _ (by kernel_rfl) rfl (by kernel_rfl) I5_8.out.all Tryd.underlying55 rfl (szIv _ _) ?_
      simp only [Act.put, List.setIfInBounds_toArray, List.set_cons_zero, List.set_cons_succ]
      refine st_run (v := .pointer (some ⟨w.heap.size, 0, none⟩)) (.pointer (some ⟨w.heap.size, 0, none⟩)) (by kernel_rfl) (by kernel_rfl) rfl ?_
      simp only [Act.put, List.setIfInBounds_toArray, List.set_cons_zero, List.set_cons_succ]
      refine st_run (v := .pointer (some ⟨w.heap.size, 0, none⟩)) (.pointer (some ⟨w.heap.size, 0, none⟩)) (by kernel_rfl) (by kernel_rfl) rfl ?_
      simp only [Act.put, List.setIfInBounds_toArray, List.set_cons_zero, List.set_cons_succ]
      refine st_load ((A : Int)) (.tmp 99) ⟨w.heap.size, 0, none⟩ (by kernel_rfl) rfl (by kernel_rfl) cA ?_
      simp only [Act.put, List.setIfInBounds_toArray, List.set_cons_zero, List.set_cons_succ]
      refine st_run (v := .pointer (some ⟨w.heap.size, 0, none⟩)) (.pointer (some ⟨w.heap.size, 0, none⟩)) (by kernel_rfl) (by kernel_rfl) rfl ?_
      simp only [Act.put, List.setIfInBounds_toArray, List.set_cons_zero, List.set_cons_succ]
      refine st_run (v := .pointer (some ⟨w.heap.size, 0, none⟩)) (.pointer (some ⟨w.heap.size, 0, none⟩)) (by kernel_rfl) (by kernel_rfl) rfl ?_
      simp only [Act.put, List.setIfInBounds_toArray, List.set_cons_zero, List.set_cons_succ]
      refine st_load ((A : Int)) (.tmp 102) ⟨w.heap.size, 0, none⟩ (by kernel_rfl) rfl (by kernel_rfl) cA ?_
      simp only [Act.put, List.setIfInBounds_toArray, List.set_cons_zero, List.set_cons_succ]
      refine st_run (v := .agg #[.int .i64 (A : Int), .int .i64 (A : Int)]) (.agg #[.int .i64 (A : Int), .int .i64 (A : Int)]) (by kernel_rfl) (by kernel_rfl) rfl ?_
      simp only [Act.put, List.setIfInBounds_toArray, List.set_cons_zero, List.set_cons_succ]
      refine st_ivneq (A : Int) (A : Int) (.tmp 97) (.tmp 104) (by kernel_rfl) rfl (by kernel_rfl) (by kernel_rfl) ?_
      simp only [Act.put, List.setIfInBounds_toArray, List.set_cons_zero, List.set_cons_succ]
      refine st_run (v := .bool false) (.bool false) (by kernel_rfl) (by kernel_rfl) rfl ?_
      simp only [Act.put, List.setIfInBounds_toArray, List.set_cons_zero, List.set_cons_succ]
      refine st_nil ?_
      go_upto_region 11 with fail
      refine st_in ?_
      refine st_mid 55 (.tmp 5) (u3.heap.size) 0 ([.int .i64 m1, .int .i64 j1]) _ (by kernel_rfl) rfl (by kernel_rfl) I1_8.out.all Tryd.underlying55 rfl (szIv _ _) ?_
      simp only [Act.put, List.setIfInBounds_toArray, List.set_cons_zero, List.set_cons_succ]
      refine st_mid 55 (.tmp 7) (u4.heap.size) 0 ([.int .i64 m2, .int .i64 j2]) _ (by kernel_rfl) rfl (by kernel_rfl) I2_8.out.all Tryd.underlying55 rfl (szIv _ _) ?_
      simp only [Act.put, List.setIfInBounds_toArray, List.set_cons_zero, List.set_cons_succ]
      refine st_call 27 #[.agg #[.int .i64 m1, .int .i64 j1], .agg #[.int .i64 m2, .int .i64 j2]] (R := fun v w' => v = .bool true ∧ Below W.heap.size W w') (by kernel_rfl) (by kernel_rfl) (HX1.out _ _ _ _ p1 p2 _) ?_
      rintro v v1 ⟨rfl, hb⟩
      have HBv1 := Lib.hid (HB8.out.trans (hb.mono HB8.out.size))
      have I3_v1 := Lib.hid (I3_8.out.up hb)
      have I4_v1 := Lib.hid (I4_8.out.up hb)
      clear hb
      simp only [Act.put, List.setIfInBounds_toArray, List.set_cons_zero, List.set_cons_succ]
      refine st_run (v := .bool true) (.bool true) (by kernel_rfl) (by kernel_rfl) rfl ?_
      simp only [Act.put, List.setIfInBounds_toArray, List.set_cons_zero, List.set_cons_succ]
      refine st_mid 55 (.tmp 11) (u6.heap.size) 0 ([.int .i64 m4, .int .i64 j4]) _ (by kernel_rfl) rfl (by kernel_rfl) I4_v1.out.all Tryd.underlying55 rfl (szIv _ _) ?_
      simp only [Act.put, List.setIfInBounds_toArray, List.set_cons_zero, List.set_cons_succ]
      refine st_mid 55 (.tmp 9) (u5.heap.size) 0 ([.int .i64 m3, .int .i64 j3]) _ (by kernel_rfl) rfl (by kernel_rfl) I3_v1.out.all Tryd.underlying55 rfl (szIv _ _) ?_
      simp only [Act.put, List.setIfInBounds_toArray, List.set_cons_zero, List.set_cons_succ]
      refine st_call 27 #[.agg #[.int .i64 m4, .int .i64 j4], .agg #[.int .i64 m3, .int .i64 j3]] (R := fun v w' => v = .bool true ∧ Below v1.heap.size v1 w') (by kernel_rfl) (by kernel_rfl) (HX2.out _ _ _ _ p3 p4 _) ?_
      rintro v v2 ⟨rfl, hb⟩
      have HBv2 := Lib.hid (HBv1.out.trans (hb.mono HBv1.out.size))
      clear hb
      simp only [Act.put, List.setIfInBounds_toArray, List.set_cons_zero, List.set_cons_succ]
      refine st_run (v := .bool true) (.bool true) (by kernel_rfl) (by kernel_rfl) rfl ?_
      simp only [Act.put, List.setIfInBounds_toArray, List.set_cons_zero, List.set_cons_succ]
      refine st_run (v := .bool true) (.bool true) (by kernel_rfl) (by kernel_rfl) rfl ?_
      simp only [Act.put, List.setIfInBounds_toArray, List.set_cons_zero, List.set_cons_succ]
      refine st_call 24 #[] (R := fun v w' => v = .bool true ∧ Below v2.heap.size v2 w') (by kernel_rfl) (by kernel_rfl) ((awake6_any _ (HP.out.below HBv2.out)).mono (by rintro e w' ⟨he, hb⟩; exact ⟨_, he, rfl, hb⟩)) ?_
      rintro v v3 ⟨rfl, hb⟩
      have HBv3 := Lib.hid (HBv2.out.trans (hb.mono HBv2.out.size))
      clear hb
      simp only [Act.put, List.setIfInBounds_toArray, List.set_cons_zero, List.set_cons_succ]
      refine st_run (v := .bool true) (.bool true) (by kernel_rfl) (by kernel_rfl) rfl ?_
      simp only [Act.put, List.setIfInBounds_toArray, List.set_cons_zero, List.set_cons_succ]
      refine st_run (v := .bool true) (.bool true) (by kernel_rfl) (by kernel_rfl) rfl ?_
      simp only [Act.put, List.setIfInBounds_toArray, List.set_cons_zero, List.set_cons_succ]
      refine st_nil ?_
      go_wp2
      go_ret
      exact ⟨rfl, HBv3.out⟩
end Go.Proofs.YtkoghdgfllichaaDoor.Pc
