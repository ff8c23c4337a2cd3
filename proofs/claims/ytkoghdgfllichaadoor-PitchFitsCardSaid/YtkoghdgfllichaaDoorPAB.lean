import Derived.Test.YtkoghdgfllichaaDoorPAA
import Derived.Test.YtkoghdgfllichaaDoorTAD
import Derived.Deep.AppendLies
namespace Go.Proofs.YtkoghdgfllichaaDoor.Pc
open Go.RowKit Tp

/-! The product of roots. -/
/-- A root as it is handed in. -/
structure Rr where
  A : Option Addr
  cap : Nat
  l : List (Nat × Int)
  d : Int
def Rr.v (r : Rr) : Value := .slice r.A r.l.length r.cap
def dpr (rs : List Rr) : Int := rs.foldl (fun a r => a * r.d) 1
theorem dpr_step {rs : List Rr} {i : Nat} {r : Rr} (h : rs[i]? = some r) : dpr (rs.take (i + 1)) = dpr (rs.take i) * r.d := by
  unfold dpr
  rw [List.take_add_one, h, List.foldl_append]
  rfl
def otr (D : Int) (rs : List Rr) : List (Nat × Int) := rs.flatMap fun r => scL (D / r.d) r.l
theorem otr_step {D : Int} {rs : List Rr} {i : Nat} {r : Rr} (h : rs[i]? = some r) : otr D (rs.take (i + 1)) = otr D (rs.take i) ++ scL (D / r.d) r.l := by
  unfold otr
  rw [List.take_add_one, h, List.flatMap_append]
  simp
theorem otr_len {D : Int} : ∀ {rs : List Rr}, (∀ r ∈ rs, r.l.length ≤ 100) → (otr D rs).length ≤ 100 * rs.length
  | [], _ => by simp [otr]
  | r :: rs, h => by
    have ih := otr_len (D := D) (rs := rs) fun x hx => h x (by simp [hx])
    have h1 := h r (by simp)
    have e : otr D (r :: rs) = scL (D / r.d) r.l ++ otr D rs := rfl
    rw [e, List.length_append, scL_len, List.length_cons]
    omega
/-- What product asks of its roots. -/
structure PrOk (rs : List Rr) : Prop where
  n : rs.length ≤ 3
  len : ∀ r ∈ rs, r.l.length ≤ 100
  bd : ∀ r ∈ rs, Bd 1000000000 r.l
  d : ∀ r ∈ rs, 1 ≤ r.d ∧ r.d * (dpr rs / r.d) = dpr rs ∧ 1 ≤ dpr rs / r.d ∧ dpr rs / r.d ≤ 1000000
  p : ∀ i, i ≤ rs.length → 1 ≤ dpr (rs.take i) ∧ dpr (rs.take i) ≤ 1000000000
def RowsR (w : World) (g : Nat) (rs : List Rr) : Prop := g < w.heap.size ∧ ∀ i r, rs[i]? = some r → w.cell? ⟨g, i * 2, none⟩ = some r.v ∧ w.cell? ⟨g, i * 2 + 1, none⟩ = some (.int .i64 r.d) ∧ TmC w w.heap.size r.v r.l
def PaRel (w : World) (rs : List Rr) (iv : Value) (wr : World) : Prop :=
  ∃ i : Nat, i ≤ rs.length ∧ iv = .int .i64 (i : Int) ∧ RowV wr w.heap.size 102 [.slice none 0 0, .int .i64 0] ∧ RowV wr (w.heap.size + 1) 102 [.slice none 0 0, .int .i64 (dpr (rs.take i))] ∧ Below w.heap.size w wr
def PbRel (w : World) (rs : List Rr) (iv : Value) (wr : World) : Prop :=
  ∃ (i : Nat) (tv : Value), i ≤ rs.length ∧ iv = .int .i64 (i : Int) ∧ RowV wr w.heap.size 102 [.slice none 0 0, .int .i64 0] ∧ RowV wr (w.heap.size + 1) 102 [tv, .int .i64 (dpr rs)] ∧ RowT wr (w.heap.size + 1 + 1) tv (otr (dpr rs) (rs.take i)) ∧ Below w.heap.size w wr
def PcRel (w : World) (rs : List Rr) (i : Nat) (r : Rr) (rb : Nat) (jv : Value) (wr : World) : Prop :=
  ∃ (j : Nat) (tv : Value), j ≤ r.l.length ∧ jv = .int .i64 (j : Int) ∧ RowV wr w.heap.size 102 [.slice none 0 0, .int .i64 0] ∧ RowV wr (w.heap.size + 1) 102 [tv, .int .i64 (dpr rs)] ∧ RowV wr rb 102 [r.v, .int .i64 r.d] ∧ tv.ownBlock ≠ some rb ∧ RowT wr (w.heap.size + 1 + 1) tv (otr (dpr rs) (rs.take i) ++ scL (dpr rs / r.d) (r.l.take j)) ∧ Below w.heap.size w wr
theorem RowV.c0 {w : World} {g : Nat} {t : TypeId} {x y : Value} (h : RowV w g t [x, y]) : w.cell? ⟨g, 0, none⟩ = some x := h.cell (i := 0) rfl
theorem RowV.c1 {w : World} {g : Nat} {t : TypeId} {x y : Value} (h : RowV w g t [x, y]) : w.cell? ⟨g, 1, none⟩ = some y := h.cell (i := 1) rfl
theorem RowV.z {w : World} {g i : Nat} {t : TypeId} {L : List Value} (h : RowV w g t L) : w.frozen? ⟨g, i, none⟩ = false := by
  have e : w.heap[g]? = some (.cells L.toArray t (0, 0)) := h
  unfold World.frozen?
  simp only [e]
  rfl
theorem mulbd {a E : Int} (h1 : -1000000000 ≤ a) (h2 : a ≤ 1000000000) (h3 : 1 ≤ E) (h4 : E ≤ 1000000) : -1000000000000000 ≤ a * E ∧ a * E ≤ 1000000000000000 := by
  have k1 := Int.mul_le_mul_of_nonneg_right h1 (show (0 : Int) ≤ E by omega)
  have k2 := Int.mul_le_mul_of_nonneg_right h2 (show (0 : Int) ≤ E by omega)
  omega
theorem RowV.far {w : World} {g b i : Nat} {t : TypeId} {L : List Value} {x : Value} (h : RowV w g t L) (hn : g ≠ b) : RowV (w.setCell ⟨b, i, none⟩ x) g t L := (setCell_heap hn).trans h
set_option maxRecDepth 100000 in
set_option maxHeartbeats 4000000 in
theorem product_any (g cap : Nat) (rs : List Rr) (w : World) (hg : RowsR w g rs) (hok : PrOk rs) :
    Calls Tryd.prog 102 #[.slice (some ⟨g, 0, none⟩) rs.length cap] w fun e w' => (∃ V, e = .returned V ∧ RootV w' w.heap.size V (otr (dpr rs) rs) (dpr rs)) ∧ Below w.heap.size w w' := by
  have hr0 : RowV ((w.alloc (.cells #[.slice none 0 0, .int .i64 0] 102)).alloc (.cells #[.slice none 0 0, .int .i64 1] 102)) w.heap.size 102 [.slice none 0 0, .int .i64 0] := (RowV.of_alloc w 102 [.slice none 0 0, .int .i64 0]).alloc _
  have hr1 : RowV ((w.alloc (.cells #[.slice none 0 0, .int .i64 0] 102)).alloc (.cells #[.slice none 0 0, .int .i64 1] 102)) (w.heap.size + 1) 102 [.slice none 0 0, .int .i64 1] := by
    have h := RowV.of_alloc (w.alloc (.cells #[.slice none 0 0, .int .i64 0] 102)) 102 [.slice none 0 0, .int .i64 1]
    rw [World.size_alloc] at h
    exact h
  have hb0 := (belB w (.cells #[.slice none 0 0, .int .i64 0] 102)).alloc (by simp) (.cells #[.slice none 0 0, .int .i64 1] 102)
  have hgl := hg.1
  have hn3 := hok.n
  have HG := Lib.hid hg.2
  have HOK := Lib.hid hok
  have H0 := Lib.hid hr0
  have H1 := Lib.hid hr1
  have HB := Lib.hid hb0
  have hnI : (rs.length : Int) ≤ 3 := by omega
  clear hg hok hr0 hr1 hb0
  go_enter Tryd.func102, Tryd.ntmps102
  go_wp2
  go_loopw [13] (fun iv wr => PaRel w rs iv wr) (fun iv _ => rs.length - (intOf iv).toNat)
  case atStart => exact ⟨0, Nat.zero_le _, rfl, H0.out, H1.out, HB.out⟩
  case round =>
    clear H0 H1 HB
    obtain ⟨i, hi, rfl, h0, h1, hb⟩ := hrel
    have hzs := hb.size
    have h1lt := h1.lt
    by_cases hil : i < rs.length
    · obtain ⟨r, hr⟩ : ∃ r, rs[i]? = some r := ⟨rs[i], List.getElem?_eq_getElem _⟩
      have hmem := List.mem_of_getElem? hr
      obtain ⟨k1, k2, -⟩ := HG.out i r hr
      obtain ⟨d1, -, -, -⟩ := HOK.out.d r hmem
      obtain ⟨p1, p2⟩ := HOK.out.p i (by omega)
      obtain ⟨q1, q2⟩ := HOK.out.p (i + 1) (by omega)
      have hst := dpr_step hr
      rw [hst] at q1 q2
      have c1 : wr.cell? ⟨g, i * 2, none⟩ = some r.v := (hb.cell (p := ⟨g, _, none⟩) hgl).trans k1
      have c2 : wr.cell? ⟨g, i * 2 + 1, none⟩ = some (.int .i64 r.d) := (hb.cell (p := ⟨g, _, none⟩) hgl).trans k2
      have c3 := RowV.c1 h1
      have z3 := RowV.z (i := 1) h1
      have hilI : (i : Int) < (rs.length : Int) := by omega
      have hiI : (0 : Int) ≤ (i : Int) := by omega
      have H0 := Lib.hid h0
      have H1 := Lib.hid h1
      have HB := Lib.hid hb
      have HST := Lib.hid hst
      have wq : IntKind.i64.wrap (dpr (rs.take i) * r.d) = dpr (rs.take i) * r.d := IntWalk.i64_in _ (by omega)
      clear h0 h1 hb hst k1 k2 hr hmem q1 q2 p1 p2 d1
      obtain ⟨dp, hdp⟩ : ∃ dp, dp = dpr (rs.take i) := ⟨_, rfl⟩
      rw [← hdp] at c3 wq
      have HDP := Lib.hid hdp
      unfold Rr.v at c1
      clear hdp
      go_wp2
      rw [HDP.out, ← HST.out]
      refine ⟨⟨i + 1, by omega, by go_num, ?_, ?_, ?_⟩, by simp [intOf]; omega⟩
      · exact RowV.alloc (RowV.far H0.out (by omega)) _
      · exact RowV.alloc (RowV.setCell H1.out 1 _) _
      · exact (HB.out.setCell (by show w.heap.size ≤ w.heap.size + 1; omega) _).alloc (by simp only [World.size_setCell]; exact hzs) _
    · obtain rfl : i = rs.length := by omega
      rw [List.take_length] at h1
      have H0 := Lib.hid h0
      have H1 := Lib.hid h1
      have HB := Lib.hid hb
      clear h0 h1 hb
      go_wp2
      go_loopw [26] (fun iv wr => PbRel w rs iv wr) (fun iv _ => rs.length - (intOf iv).toNat)
      case atStart => exact ⟨0, _, Nat.zero_le _, rfl, H0.out, H1.out, RowT.nil _ _, HB.out⟩
      case round =>
        clear H0 H1 HB
        obtain ⟨i, tv, hi, rfl, h0, h1, ht, hb⟩ := hrel
        have hzs := hb.size
        have h1lt := h1.lt
        by_cases hil : i < rs.length
        · obtain ⟨⟨rA, rcap, rl, rd⟩, hr⟩ : ∃ r, rs[i]? = some r := ⟨rs[i], List.getElem?_eq_getElem _⟩
          have hmem := List.mem_of_getElem? hr
          obtain ⟨k1, k2, k3⟩ := HG.out i _ hr
          unfold Rr.v at k1 k3
          simp only at k1 k2 k3
          have c1 : wr.cell? ⟨g, i * 2, none⟩ = some (.slice rA rl.length rcap) := (hb.cell (p := ⟨g, _, none⟩) hgl).trans k1
          have c2 : wr.cell? ⟨g, i * 2 + 1, none⟩ = some (.int .i64 rd) := (hb.cell (p := ⟨g, _, none⟩) hgl).trans k2
          have hilI : (i : Int) < (rs.length : Int) := by omega
          have hiI : (0 : Int) ≤ (i : Int) := by omega
          have hll : rl.length ≤ 100 := HOK.out.len _ hmem
          have hllI : (rl.length : Int) ≤ 100 := by omega
          have H0 := Lib.hid (h0.alloc (.cells #[.slice rA rl.length rcap, .int .i64 rd] 102))
          have H1 := Lib.hid (h1.alloc (.cells #[.slice rA rl.length rcap, .int .i64 rd] 102))
          have HR := Lib.hid (RowV.of_alloc wr 102 [.slice rA rl.length rcap, .int .i64 rd])
          have HTV := Lib.hid (ht.up (belB wr (.cells #[.slice rA rl.length rcap, .int .i64 rd] 102)))
          have hne : tv.ownBlock ≠ some wr.heap.size := fun e => by have := (ht.lt _ e).2; omega
          have HNE := Lib.hid hne
          have HB := Lib.hid (hb.alloc hzs (.cells #[.slice rA rl.length rcap, .int .i64 rd] 102))
          have HK3 := Lib.hid k3
          have HRI := Lib.hid hr
          have HMEM := Lib.hid hmem
          clear h0 h1 hb k1 k2 k3 hr hmem ht hne
          go_wp2
          generalize wr.heap.size = rb at *
          go_loopw [33] (fun jv wq => PcRel w rs i ⟨rA, rcap, rl, rd⟩ rb jv wq) (fun jv _ => rl.length - (intOf jv).toNat)
          case atStart => exact ⟨0, _, Nat.zero_le _, rfl, H0.out, H1.out, HR.out, HNE.out, (by
            have h := HTV.out
            show RowT _ _ _ (otr (dpr rs) (rs.take i) ++ [])
            rw [List.append_nil]
            exact h), HB.out⟩
          case round =>
            clear H0 H1 HR HTV HNE HB
            obtain ⟨j, tv2, hj, rfl, h0, h1, hr, hne, ht, hb⟩ := hrel
            by_cases hjl : j < rl.length
            · obtain ⟨⟨n, a⟩, hx⟩ : ∃ x, rl[j]? = some x := ⟨rl[j], List.getElem?_eq_getElem _⟩
              have hbd : -1000000000 ≤ a ∧ a ≤ 1000000000 := HOK.out.bd _ HMEM.out _ (List.mem_of_getElem? hx)
              obtain ⟨ed1, ed2, ed3, ed4⟩ := HOK.out.d _ HMEM.out
              simp only at ed1 ed2 ed3 ed4
              obtain ⟨ma1, ma2⟩ := mulbd hbd.1 hbd.2 ed3 ed4
              obtain ⟨A2, cap2, e2, -, hcell⟩ := HK3.out
              cases e2
              obtain ⟨g2, o, rfl, hg2, hcc⟩ := hcell (by intro e; rw [e] at hjl; exact Nat.not_lt_zero _ hjl)
              obtain ⟨k1, k2⟩ := hcc j _ hx
              have c1 : wr.cell? ⟨g2, o + j * 2, none⟩ = some (.int .i64 (n : Int)) := (hb.cell (p := ⟨g2, _, none⟩) hg2).trans k1
              have c2 : wr.cell? ⟨g2, o + j * 2 + 1, none⟩ = some (.int .i64 a) := (hb.cell (p := ⟨g2, _, none⟩) hg2).trans k2
              have hjI : (j : Int) < (rl.length : Int) := by omega
              have hjI0 : (0 : Int) ≤ (j : Int) := by omega
              have hsl := scL_take (dpr rs / rd) rl hx
              have hol := otr_len (D := dpr rs) (rs := rs.take i) (fun x hx => HOK.out.len x (List.mem_of_mem_take hx))
              have htk : (rs.take i).length ≤ 3 := by rw [List.length_take]; omega
              obtain ⟨LL, hLL⟩ : ∃ LL, LL = otr (dpr rs) (rs.take i) ++ scL (dpr rs / rd) (rl.take j) := ⟨_, rfl⟩
              have hll2 : LL.length ≤ 500 := by rw [hLL, List.length_append, scL_len, List.length_take]; omega
              have hnext : otr (dpr rs) (rs.take i) ++ scL (dpr rs / rd) (rl.take (j + 1)) = LL ++ [(n, a * (dpr rs / rd))] := by rw [hLL, hsl, List.append_assoc]
              rw [← hLL] at ht
              obtain ⟨D, hD⟩ : ∃ D, D = dpr rs := ⟨_, rfl⟩
              obtain ⟨E, hE⟩ : ∃ E, E = dpr rs / rd := ⟨_, rfl⟩
              rw [← hE] at hnext ma1 ma2 ed2 ed3 ed4
              rw [← hD] at h1
              have hq1 : D.tdiv rd = E := by rw [hD, hE, Int.tdiv_eq_ediv_of_nonneg (by have := HOK.out.p rs.length (Nat.le_refl _); rw [List.take_length] at this; omega)]
              have hq2 : D / rd = E := by rw [hD, hE]
              have hd0 : ¬ rd = 0 := by omega
              have hd0b : (rd == 0) = false := by simp [hd0]
              have we : IntKind.i64.wrap E = E := IntWalk.i64_in _ (by omega)
              have wm : IntKind.i64.wrap (a * E) = a * E := IntWalk.i64_in _ (by omega)
              have hzs2 := hb.size
              have h1l := h1.lt
              have hrl := hr.lt
              have HNX := Lib.hid hnext
              have HDD := Lib.hid hD
              have HEE := Lib.hid hE
              obtain ⟨bA, capA, rfl, hcA, hmA, hfA⟩ := ht.form
              obtain ⟨W, hW⟩ : ∃ W, W = wr.alloc (.cells #[.int .i64 (n : Int), .int .i64 a] 75) := ⟨_, rfl⟩
              have a0 : RowV W w.heap.size 102 [.slice none 0 0, .int .i64 0] := by rw [hW]; exact h0.alloc _
              have a1 : RowV W (w.heap.size + 1) 102 [.slice bA LL.length capA, .int .i64 D] := by rw [hW]; exact h1.alloc _
              have a2 : RowV W rb 102 [.slice (some ⟨g2, o, none⟩) rl.length rcap, .int .i64 rd] := by rw [hW]; exact hr.alloc _
              have a3 : RowV W wr.heap.size 75 [.int .i64 (n : Int), .int .i64 a] := by rw [hW]; exact RowV.of_alloc wr 75 [.int .i64 (n : Int), .int .i64 a]
              have a4 : RowT W (w.heap.size + 1 + 1) (.slice bA LL.length capA) LL := by rw [hW]; exact ht.up (belB wr _)
              have a5 : Below w.heap.size w W := by rw [hW]; exact hb.alloc hzs2 _
              have a6 : (Value.slice bA LL.length capA).ownBlock ≠ some wr.heap.size := fun e => by have := (ht.lt _ e).2; omega
              have hWs : W.heap.size = wr.heap.size + 1 := by rw [hW]; simp
              have hbA : ∀ k, (Value.slice bA LL.length capA).ownBlock = some k → w.heap.size + 1 + 1 ≤ k ∧ k < wr.heap.size := fun k e => by
                rcases hfA with ⟨rfl, -, -⟩ | ⟨g3, rfl, hg3, hg4, -⟩
                · cases e
                · have e2 : g3 = k := Option.some.inj e
                  omega
              have HBA := Lib.hid hbA
              clear h0 h1 hr ht hb k1 k2 hcell hcc hx hbd hsl hol htk hLL hnext hD hE hfA ma1 ma2 hbA
              go_wp2_with fail
              rw [← hW]
              clear hW c1 c2
              generalize wr.heap.size = tb at *
              have A0 := Lib.hid a0
              have A1 := Lib.hid a1
              have A2 := Lib.hid a2
              have A3 := Lib.hid a3
              have A4 := Lib.hid a4
              have A5 := Lib.hid a5
              have A6 := Lib.hid a6
              have HNE := Lib.hid hne
              clear a0 a1 a2 a3 a4 a5 a6 hne
              obtain ⟨i0, hi0, hz0, hz1, hz2⟩ := info_parts Tryd.infoT
              refine wp_region_noPanic ?_
              have hb0 : Below W.heap.size W W.drew := (Below.refl _ _).drew
              have hs0 : W.drew.cell? ⟨tb, 0, none⟩ = some (.int .i64 (n : Int)) ∧ W.drew.cell? ⟨tb, 1, none⟩ = some (.int .i64 a) ∧ W.drew.cell? ⟨rb, 1, none⟩ = some (.int .i64 rd) ∧ W.drew.cell? ⟨w.heap.size + 1, 1, none⟩ = some (.int .i64 D) := ⟨RowV.c0 (A3.out.up hb0), RowV.c1 (A3.out.up hb0), RowV.c1 (A2.out.up hb0), RowV.c1 (A1.out.up hb0)⟩
              have cA0 : W.drew.cell? ⟨w.heap.size + 1, 0, none⟩ = some (.slice bA LL.length capA) := RowV.c0 (A1.out.up hb0)
              refine wp_region_held_drew (S := fun w' => w'.cell? ⟨tb, 0, none⟩ = some (.int .i64 (n : Int)) ∧ w'.cell? ⟨tb, 1, none⟩ = some (.int .i64 a) ∧ w'.cell? ⟨rb, 1, none⟩ = some (.int .i64 rd) ∧ w'.cell? ⟨w.heap.size + 1, 1, none⟩ = some (.int .i64 D)) (by kernel_rfl) hs0 (fun _ => ?_)
              refine wpAnyH_take (i := 0) (oi := ⟨some 37, _, _, _, _, _⟩) (v := .pointer (some ⟨w.heap.size + 1, 0, none⟩)) rfl (by kernel_rfl) (by kernel_rfl) (by kernel_rfl) (fun _ _ _ h => h) (Or.inl ⟨by rfl, fun w' hS => by obtain ⟨e0, e1, e2, e3⟩ := hS; go_simp; (try (with_reducible rfl))⟩) hs0 ?_
              (try simp only [Act.put, List.setIfInBounds_toArray, List.set_cons_zero, List.set_cons_succ])
              refine wpAnyH_take (i := 2) (oi := ⟨some 39, _, _, _, _, _⟩) (v := .pointer (some ⟨tb, 0, none⟩)) rfl (by kernel_rfl) (by kernel_rfl) (by kernel_rfl) (fun _ _ _ h => h) (Or.inl ⟨by rfl, fun w' hS => by obtain ⟨e0, e1, e2, e3⟩ := hS; go_simp; (try (with_reducible rfl))⟩) hs0 ?_
              (try simp only [Act.put, List.setIfInBounds_toArray, List.set_cons_zero, List.set_cons_succ])
              refine wpAnyH_take (i := 3) (oi := ⟨some 40, _, _, _, _, _⟩) (v := .int .i64 (n : Int)) rfl (by kernel_rfl) (by kernel_rfl) (by kernel_rfl) (fun _ _ _ h => h) (Or.inl ⟨by rfl, fun w' hS => by obtain ⟨e0, e1, e2, e3⟩ := hS; go_simp; (try (with_reducible rfl))⟩) hs0 ?_
              (try simp only [Act.put, List.setIfInBounds_toArray, List.set_cons_zero, List.set_cons_succ])
              refine wpAnyH_take (i := 4) (oi := ⟨some 41, _, _, _, _, _⟩) (v := .pointer (some ⟨tb, 1, none⟩)) rfl (by kernel_rfl) (by kernel_rfl) (by kernel_rfl) (fun _ _ _ h => h) (Or.inl ⟨by rfl, fun w' hS => by obtain ⟨e0, e1, e2, e3⟩ := hS; go_simp; (try (with_reducible rfl))⟩) hs0 ?_
              (try simp only [Act.put, List.setIfInBounds_toArray, List.set_cons_zero, List.set_cons_succ])
              refine wpAnyH_take (i := 5) (oi := ⟨some 42, _, _, _, _, _⟩) (v := .int .i64 a) rfl (by kernel_rfl) (by kernel_rfl) (by kernel_rfl) (fun _ _ _ h => h) (Or.inl ⟨by rfl, fun w' hS => by obtain ⟨e0, e1, e2, e3⟩ := hS; go_simp; (try (with_reducible rfl))⟩) hs0 ?_
              (try simp only [Act.put, List.setIfInBounds_toArray, List.set_cons_zero, List.set_cons_succ])
              refine wpAnyH_take (i := 6) (oi := ⟨some 43, _, _, _, _, _⟩) (v := .pointer (some ⟨w.heap.size + 1, 1, none⟩)) rfl (by kernel_rfl) (by kernel_rfl) (by kernel_rfl) (fun _ _ _ h => h) (Or.inl ⟨by rfl, fun w' hS => by obtain ⟨e0, e1, e2, e3⟩ := hS; go_simp; (try (with_reducible rfl))⟩) hs0 ?_
              (try simp only [Act.put, List.setIfInBounds_toArray, List.set_cons_zero, List.set_cons_succ])
              refine wpAnyH_take (i := 7) (oi := ⟨some 44, _, _, _, _, _⟩) (v := .int .i64 D) rfl (by kernel_rfl) (by kernel_rfl) (by kernel_rfl) (fun _ _ _ h => h) (Or.inl ⟨by rfl, fun w' hS => by obtain ⟨e0, e1, e2, e3⟩ := hS; go_simp; (try (with_reducible rfl))⟩) hs0 ?_
              (try simp only [Act.put, List.setIfInBounds_toArray, List.set_cons_zero, List.set_cons_succ])
              refine wpAnyH_take (i := 8) (oi := ⟨some 45, _, _, _, _, _⟩) (v := .pointer (some ⟨rb, 1, none⟩)) rfl (by kernel_rfl) (by kernel_rfl) (by kernel_rfl) (fun _ _ _ h => h) (Or.inl ⟨by rfl, fun w' hS => by obtain ⟨e0, e1, e2, e3⟩ := hS; go_simp; (try (with_reducible rfl))⟩) hs0 ?_
              (try simp only [Act.put, List.setIfInBounds_toArray, List.set_cons_zero, List.set_cons_succ])
              refine wpAnyH_take (i := 9) (oi := ⟨some 46, _, _, _, _, _⟩) (v := .int .i64 rd) rfl (by kernel_rfl) (by kernel_rfl) (by kernel_rfl) (fun _ _ _ h => h) (Or.inl ⟨by rfl, fun w' hS => by obtain ⟨e0, e1, e2, e3⟩ := hS; go_simp; (try (with_reducible rfl))⟩) hs0 ?_
              (try simp only [Act.put, List.setIfInBounds_toArray, List.set_cons_zero, List.set_cons_succ])
              refine wpAnyH_take (i := 10) (oi := ⟨some 47, _, _, _, _, _⟩) (v := .int .i64 E) rfl (by kernel_rfl) (by kernel_rfl) (by kernel_rfl) (fun _ _ _ h => h) (Or.inl ⟨by rfl, fun w' hS => by obtain ⟨e0, e1, e2, e3⟩ := hS; go_simp; (try (with_reducible rfl))⟩) hs0 ?_
              (try simp only [Act.put, List.setIfInBounds_toArray, List.set_cons_zero, List.set_cons_succ])
              refine wpAnyH_take (i := 11) (oi := ⟨some 48, _, _, _, _, _⟩) (v := .int .i64 (a * E)) rfl (by kernel_rfl) (by kernel_rfl) (by kernel_rfl) (fun _ _ _ h => h) (Or.inl ⟨by rfl, fun w' hS => by obtain ⟨e0, e1, e2, e3⟩ := hS; go_simp; (try (with_reducible rfl))⟩) hs0 ?_
              (try simp only [Act.put, List.setIfInBounds_toArray, List.set_cons_zero, List.set_cons_succ])
              refine wpAnyH_take (i := 12) (oi := ⟨some 49, _, _, _, _, _⟩) (v := .agg #[.int .i64 (n : Int), .int .i64 (a * E)]) rfl (by kernel_rfl) (by kernel_rfl) (by kernel_rfl) (fun _ _ _ h => h) (Or.inl ⟨by rfl, fun w' hS => by obtain ⟨e0, e1, e2, e3⟩ := hS; go_simp; (try (with_reducible rfl))⟩) hs0 ?_
              (try simp only [Act.put, List.setIfInBounds_toArray, List.set_cons_zero, List.set_cons_succ])
              refine wpAnyH_ready (rs := [1, 13]) (by kernel_rfl) (by simp) (AllReadyH.cons (o := ⟨some 38, _, _, _, _, _⟩) rfl (fun K hK => ?_) (AllReadyH.cons (o := ⟨some 50, _, _, _, _, _⟩) rfl (fun K hK => ?_) AllReadyH.nil))
              · rw [if_pos (by rfl)]
                go_simp
                refine hK.out _ _ hs0 (fun _ => ?_)
                clear hK K
                (try simp only [Act.put, List.setIfInBounds_toArray, List.set_cons_zero, List.set_cons_succ])
                refine wpAnyH_ready (rs := [13]) (by kernel_rfl) (by simp) (AllReadyH.cons (o := ⟨some 50, _, _, _, _, _⟩) rfl (fun K hK => ?_) AllReadyH.nil)
                have hb1 := hb0.alloc hb0.size (.cells #[.int .i64 (n : Int), .int .i64 (a * E)] 75)
                have hs1 : (fun w' : World => w'.cell? ⟨tb, 0, none⟩ = some (.int .i64 (n : Int)) ∧ w'.cell? ⟨tb, 1, none⟩ = some (.int .i64 a) ∧ w'.cell? ⟨rb, 1, none⟩ = some (.int .i64 rd) ∧ w'.cell? ⟨w.heap.size + 1, 1, none⟩ = some (.int .i64 D)) (W.drew.alloc (.cells #[.int .i64 (n : Int), .int .i64 (a * E)] 75)) := ⟨RowV.c0 (A3.out.up hb1), RowV.c1 (A3.out.up hb1), RowV.c1 (A2.out.up hb1), RowV.c1 (A1.out.up hb1)⟩
                have cA2 : (W.alloc (.cells #[.int .i64 (n : Int), .int .i64 (a * E)] 75)).cell? ⟨w.heap.size + 1, 0, none⟩ = some (.slice bA LL.length capA) := RowV.c0 (A1.out.alloc (.cells #[.int .i64 (n : Int), .int .i64 (a * E)] 75))
                have cA1 : (W.drew.alloc (.cells #[.int .i64 (n : Int), .int .i64 (a * E)] 75)).cell? ⟨w.heap.size + 1, 0, none⟩ = some (.slice bA LL.length capA) := RowV.c0 (A1.out.up hb1)
                rw [if_pos (by rfl)]
                go_simp
                (try go_wp2_with fail)
                refine hK.out _ _ hs1 (fun _ => ?_)
                clear hK K
                (try simp only [Act.put, List.setIfInBounds_toArray, List.set_cons_zero, List.set_cons_succ])
                refine wpAnyH_ready (rs := [14]) (by kernel_rfl) (by simp) (AllReadyH.cons (o := ⟨some 51, _, _, _, _, _⟩) rfl (fun K hK => ?_) AllReadyH.nil)
                have hrow := A4.out.up hb1
                have hnb : (W.drew.alloc (.cells #[.int .i64 (n : Int), .int .i64 (a * E)] 75)).heap[tb + 1]? = some (.cells #[.int .i64 (n : Int), .int .i64 (a * E)] 75 (0, 0)) := by
                  have h := heap_alloc_new W.drew (.cells #[.int .i64 (n : Int), .int .i64 (a * E)] 75)
                  rw [show W.drew.heap.size = tb + 1 from hWs] at h
                  exact h
                refine step_append_lies _ (by rfl) _ _ _ (by rfl) (w.heap.size + 1 + 1) 75 i0 _ 2 16 Tryd.underlying69 hi0 hz0 hz1 hz2 rfl (by decide) (.slice bA LL.length capA) LL.length (encT LL) (by rfl) hrow ⟨tb + 1, 0, none⟩ 1 1 (encT [(n, a * E)]) (by rfl) (by rfl) (World.news_of_block (cs := #[.int .i64 (n : Int), .int .i64 (a * E)]) (t := 75) (fr := (0, 0)) hnb) (one_encT _) (by omega) (by unfold maxLen; omega) (by omega) (by simp; omega) (tb + 1 + 1) (by simp; omega) ?_
                intro g7 cap7 w7 hown7 hgr7 hat7 hg7
                have hnr : ∀ k, k < tb + 1 → k ≠ tb → k ≤ w.heap.size + 1 ∨ k = rb → ¬ (some k = (Value.slice bA LL.length capA).ownBlock) := fun k h1 h2 h3 e => by
                  have := HBA.out k e.symm
                  rcases h3 with h3 | h3
                  · omega
                  · subst h3; exact HNE.out e.symm
                have hkp : ∀ k, k < tb + 1 → (k ≤ w.heap.size + 1 ∨ k = rb ∨ k = tb) → w7.heap[k]? = W.heap[k]? := fun k h1 h2 => by
                  refine (hgr7.block k (by simp; omega) (fun e => ?_)).trans (hb1.block k (by omega))
                  rcases h2 with h2 | h2 | h2
                  · exact hnr k h1 (by omega) (.inl h2) e
                  · exact hnr k h1 (by omega) (.inr h2) e
                  · subst h2; exact A6.out e.symm
                have r0 : RowV w7 w.heap.size 102 [.slice none 0 0, .int .i64 0] := (hkp _ (by omega) (by omega)).trans A0.out
                have r1 : RowV w7 (w.heap.size + 1) 102 [.slice bA LL.length capA, .int .i64 D] := (hkp _ (by omega) (by omega)).trans A1.out
                have r2 : RowV w7 rb 102 [.slice (some ⟨g2, o, none⟩) rl.length rcap, .int .i64 rd] := (hkp _ (by omega) (by omega)).trans A2.out
                have r3 : RowV w7 tb 75 [.int .i64 (n : Int), .int .i64 a] := (hkp _ (by omega) (by omega)).trans A3.out
                have r5 : Below w.heap.size w w7 := (A5.out.trans (hb1.mono A5.out.size)).grown hgr7 (by simp; omega) (fun k hk => by have := HBA.out k hk; omega)
                have hs7 : w7.cell? ⟨tb, 0, none⟩ = some (.int .i64 (n : Int)) ∧ w7.cell? ⟨tb, 1, none⟩ = some (.int .i64 a) ∧ w7.cell? ⟨rb, 1, none⟩ = some (.int .i64 rd) ∧ w7.cell? ⟨w.heap.size + 1, 1, none⟩ = some (.int .i64 D) := ⟨RowV.c0 r3, RowV.c1 r3, RowV.c1 r2, RowV.c1 r1⟩
                have c70 := RowV.c0 r1
                have z70 := RowV.z (i := 0) r1
                refine hK.out _ _ hs7 (fun _ => ?_)
                clear hK K
                (try simp only [Act.put, List.setIfInBounds_toArray, List.set_cons_zero, List.set_cons_succ])
                refine wpAnyH_ready (rs := [15]) (by kernel_rfl) (by simp) (AllReadyH.cons (o := ⟨some 52, _, _, _, _, _⟩) rfl (fun K hK => ?_) AllReadyH.nil)
                rw [if_pos (by rfl)]
                go_simp
                refine hK.out _ _ hs7 (fun _ => ?_)
                clear hK K
                (try simp only [Act.put, List.setIfInBounds_toArray, List.set_cons_zero, List.set_cons_succ])
                refine wpAnyH_ready (rs := [16]) (by kernel_rfl) (by simp) (AllReadyH.cons (o := ⟨none, _, _, _, _, _⟩) rfl (fun K hK => ?_) AllReadyH.nil)
                rw [if_pos (by rfl)]
                go_simp
                have q0 := RowV.far (b := w.heap.size + 1) (i := 0) (x := .slice (some ⟨g7, 0, none⟩) (LL.length + 1) cap7) r0 (by omega)
                have q1 := RowV.setCell r1 0 (.slice (some ⟨g7, 0, none⟩) (LL.length + 1) cap7)
                have q2 := RowV.far (b := w.heap.size + 1) (i := 0) (x := .slice (some ⟨g7, 0, none⟩) (LL.length + 1) cap7) r2 (by omega)
                have q3 := RowV.far (b := w.heap.size + 1) (i := 0) (x := .slice (some ⟨g7, 0, none⟩) (LL.length + 1) cap7) r3 (by omega)
                refine hK.out _ _ ⟨RowV.c0 q3, RowV.c1 q3, RowV.c1 q2, RowV.c1 q1⟩ (fun _ => ?_)
                clear hK K
                (try simp only [Act.put, List.setIfInBounds_toArray, List.set_cons_zero, List.set_cons_succ])
                refine wpAnyH_done (by kernel_rfl) ?_ _
                refine NoPanic.normal ?_
                go_wp2
                have hrowN : RowT w7 (w.heap.size + 1 + 1) (.slice (some ⟨g7, 0, none⟩) (LL.length + 1) cap7) (LL ++ [(n, a * E)]) := by
                  show World.ownsRow _ _ _ _ _ (LL ++ [(n, a * E)]).length (encT (LL ++ [(n, a * E)]))
                  rw [encT_append, List.length_append]
                  exact hown7
                have hg7b : w.heap.size + 1 + 1 ≤ g7 ∧ g7 ≠ rb := by
                  rcases hat7 with h | h
                  · exact ⟨(HBA.out _ h).1, fun e => by subst e; exact HNE.out h⟩
                  · omega
                refine ⟨⟨j + 1, .slice (some ⟨g7, 0, none⟩) (LL.length + 1) cap7, (by show j + 1 ≤ rl.length; omega), by go_num, q0, by rw [← HDD.out]; exact q1, q2, fun e => hg7b.2 (Option.some.inj e), ?_, r5.setCell (by show w.heap.size ≤ w.heap.size + 1; omega) _⟩, by simp [intOf]; omega⟩
                show RowT _ _ _ (otr (dpr rs) (rs.take i) ++ scL (dpr rs / rd) (rl.take (j + 1)))
                rw [← HEE.out, HNX.out]
                exact hrowN.keep fun k hk => setCell_heap (by have e2 : g7 = k := Option.some.inj hk; omega)
              · have hb1 := hb0.alloc hb0.size (.cells #[.int .i64 (n : Int), .int .i64 (a * E)] 75)
                have hs1 : (fun w' : World => w'.cell? ⟨tb, 0, none⟩ = some (.int .i64 (n : Int)) ∧ w'.cell? ⟨tb, 1, none⟩ = some (.int .i64 a) ∧ w'.cell? ⟨rb, 1, none⟩ = some (.int .i64 rd) ∧ w'.cell? ⟨w.heap.size + 1, 1, none⟩ = some (.int .i64 D)) (W.drew.alloc (.cells #[.int .i64 (n : Int), .int .i64 (a * E)] 75)) := ⟨RowV.c0 (A3.out.up hb1), RowV.c1 (A3.out.up hb1), RowV.c1 (A2.out.up hb1), RowV.c1 (A1.out.up hb1)⟩
                have cA2 : (W.alloc (.cells #[.int .i64 (n : Int), .int .i64 (a * E)] 75)).cell? ⟨w.heap.size + 1, 0, none⟩ = some (.slice bA LL.length capA) := RowV.c0 (A1.out.alloc (.cells #[.int .i64 (n : Int), .int .i64 (a * E)] 75))
                have cA1 : (W.drew.alloc (.cells #[.int .i64 (n : Int), .int .i64 (a * E)] 75)).cell? ⟨w.heap.size + 1, 0, none⟩ = some (.slice bA LL.length capA) := RowV.c0 (A1.out.up hb1)
                rw [if_pos (by rfl)]
                go_simp
                (try go_wp2_with fail)
                refine hK.out _ _ hs1 (fun _ => ?_)
                clear hK K
                (try simp only [Act.put, List.setIfInBounds_toArray, List.set_cons_zero, List.set_cons_succ])
                refine wpAnyH_ready (rs := [1]) (by kernel_rfl) (by simp) (AllReadyH.cons (o := ⟨some 38, _, _, _, _, _⟩) rfl (fun K hK => ?_) AllReadyH.nil)
                rw [if_pos (by rfl)]
                go_simp
                refine hK.out _ _ hs1 (fun _ => ?_)
                clear hK K
                (try simp only [Act.put, List.setIfInBounds_toArray, List.set_cons_zero, List.set_cons_succ])
                refine wpAnyH_ready (rs := [14]) (by kernel_rfl) (by simp) (AllReadyH.cons (o := ⟨some 51, _, _, _, _, _⟩) rfl (fun K hK => ?_) AllReadyH.nil)
                have hrow := A4.out.up hb1
                have hnb : (W.drew.alloc (.cells #[.int .i64 (n : Int), .int .i64 (a * E)] 75)).heap[tb + 1]? = some (.cells #[.int .i64 (n : Int), .int .i64 (a * E)] 75 (0, 0)) := by
                  have h := heap_alloc_new W.drew (.cells #[.int .i64 (n : Int), .int .i64 (a * E)] 75)
                  rw [show W.drew.heap.size = tb + 1 from hWs] at h
                  exact h
                refine step_append_lies _ (by rfl) _ _ _ (by rfl) (w.heap.size + 1 + 1) 75 i0 _ 2 16 Tryd.underlying69 hi0 hz0 hz1 hz2 rfl (by decide) (.slice bA LL.length capA) LL.length (encT LL) (by rfl) hrow ⟨tb + 1, 0, none⟩ 1 1 (encT [(n, a * E)]) (by rfl) (by rfl) (World.news_of_block (cs := #[.int .i64 (n : Int), .int .i64 (a * E)]) (t := 75) (fr := (0, 0)) hnb) (one_encT _) (by omega) (by unfold maxLen; omega) (by omega) (by simp; omega) (tb + 1 + 1) (by simp; omega) ?_
                intro g7 cap7 w7 hown7 hgr7 hat7 hg7
                have hnr : ∀ k, k < tb + 1 → k ≠ tb → k ≤ w.heap.size + 1 ∨ k = rb → ¬ (some k = (Value.slice bA LL.length capA).ownBlock) := fun k h1 h2 h3 e => by
                  have := HBA.out k e.symm
                  rcases h3 with h3 | h3
                  · omega
                  · subst h3; exact HNE.out e.symm
                have hkp : ∀ k, k < tb + 1 → (k ≤ w.heap.size + 1 ∨ k = rb ∨ k = tb) → w7.heap[k]? = W.heap[k]? := fun k h1 h2 => by
                  refine (hgr7.block k (by simp; omega) (fun e => ?_)).trans (hb1.block k (by omega))
                  rcases h2 with h2 | h2 | h2
                  · exact hnr k h1 (by omega) (.inl h2) e
                  · exact hnr k h1 (by omega) (.inr h2) e
                  · subst h2; exact A6.out e.symm
                have r0 : RowV w7 w.heap.size 102 [.slice none 0 0, .int .i64 0] := (hkp _ (by omega) (by omega)).trans A0.out
                have r1 : RowV w7 (w.heap.size + 1) 102 [.slice bA LL.length capA, .int .i64 D] := (hkp _ (by omega) (by omega)).trans A1.out
                have r2 : RowV w7 rb 102 [.slice (some ⟨g2, o, none⟩) rl.length rcap, .int .i64 rd] := (hkp _ (by omega) (by omega)).trans A2.out
                have r3 : RowV w7 tb 75 [.int .i64 (n : Int), .int .i64 a] := (hkp _ (by omega) (by omega)).trans A3.out
                have r5 : Below w.heap.size w w7 := (A5.out.trans (hb1.mono A5.out.size)).grown hgr7 (by simp; omega) (fun k hk => by have := HBA.out k hk; omega)
                have hs7 : w7.cell? ⟨tb, 0, none⟩ = some (.int .i64 (n : Int)) ∧ w7.cell? ⟨tb, 1, none⟩ = some (.int .i64 a) ∧ w7.cell? ⟨rb, 1, none⟩ = some (.int .i64 rd) ∧ w7.cell? ⟨w.heap.size + 1, 1, none⟩ = some (.int .i64 D) := ⟨RowV.c0 r3, RowV.c1 r3, RowV.c1 r2, RowV.c1 r1⟩
                have c70 := RowV.c0 r1
                have z70 := RowV.z (i := 0) r1
                refine hK.out _ _ hs7 (fun _ => ?_)
                clear hK K
                (try simp only [Act.put, List.setIfInBounds_toArray, List.set_cons_zero, List.set_cons_succ])
                refine wpAnyH_ready (rs := [15]) (by kernel_rfl) (by simp) (AllReadyH.cons (o := ⟨some 52, _, _, _, _, _⟩) rfl (fun K hK => ?_) AllReadyH.nil)
                rw [if_pos (by rfl)]
                go_simp
                refine hK.out _ _ hs7 (fun _ => ?_)
                clear hK K
                (try simp only [Act.put, List.setIfInBounds_toArray, List.set_cons_zero, List.set_cons_succ])
                refine wpAnyH_ready (rs := [16]) (by kernel_rfl) (by simp) (AllReadyH.cons (o := ⟨none, _, _, _, _, _⟩) rfl (fun K hK => ?_) AllReadyH.nil)
                rw [if_pos (by rfl)]
                go_simp
                have q0 := RowV.far (b := w.heap.size + 1) (i := 0) (x := .slice (some ⟨g7, 0, none⟩) (LL.length + 1) cap7) r0 (by omega)
                have q1 := RowV.setCell r1 0 (.slice (some ⟨g7, 0, none⟩) (LL.length + 1) cap7)
                have q2 := RowV.far (b := w.heap.size + 1) (i := 0) (x := .slice (some ⟨g7, 0, none⟩) (LL.length + 1) cap7) r2 (by omega)
                have q3 := RowV.far (b := w.heap.size + 1) (i := 0) (x := .slice (some ⟨g7, 0, none⟩) (LL.length + 1) cap7) r3 (by omega)
                refine hK.out _ _ ⟨RowV.c0 q3, RowV.c1 q3, RowV.c1 q2, RowV.c1 q1⟩ (fun _ => ?_)
                clear hK K
                (try simp only [Act.put, List.setIfInBounds_toArray, List.set_cons_zero, List.set_cons_succ])
                refine wpAnyH_done (by kernel_rfl) ?_ _
                refine NoPanic.normal ?_
                go_wp2
                have hrowN : RowT w7 (w.heap.size + 1 + 1) (.slice (some ⟨g7, 0, none⟩) (LL.length + 1) cap7) (LL ++ [(n, a * E)]) := by
                  show World.ownsRow _ _ _ _ _ (LL ++ [(n, a * E)]).length (encT (LL ++ [(n, a * E)]))
                  rw [encT_append, List.length_append]
                  exact hown7
                have hg7b : w.heap.size + 1 + 1 ≤ g7 ∧ g7 ≠ rb := by
                  rcases hat7 with h | h
                  · exact ⟨(HBA.out _ h).1, fun e => by subst e; exact HNE.out h⟩
                  · omega
                refine ⟨⟨j + 1, .slice (some ⟨g7, 0, none⟩) (LL.length + 1) cap7, (by show j + 1 ≤ rl.length; omega), by go_num, q0, by rw [← HDD.out]; exact q1, q2, fun e => hg7b.2 (Option.some.inj e), ?_, r5.setCell (by show w.heap.size ≤ w.heap.size + 1; omega) _⟩, by simp [intOf]; omega⟩
                show RowT _ _ _ (otr (dpr rs) (rs.take i) ++ scL (dpr rs / rd) (rl.take (j + 1)))
                rw [← HEE.out, HNX.out]
                exact hrowN.keep fun k hk => setCell_heap (by have e2 : g7 = k := Option.some.inj hk; omega)
            · have hjr : j ≤ rl.length := hj
              obtain rfl : j = rl.length := by omega
              simp only [List.take_length] at ht
              have H0 := Lib.hid h0
              have H1 := Lib.hid h1
              have HT := Lib.hid ht
              have HB := Lib.hid hb
              clear h0 h1 hr hne ht hb
              go_wp2
              refine ⟨⟨i + 1, tv2, by omega, by go_num, H0.out, H1.out, ?_, HB.out⟩, by simp [intOf]; omega⟩
              rw [otr_step HRI.out]
              exact HT.out
        · obtain rfl : i = rs.length := by omega
          rw [List.take_length] at ht
          obtain ⟨bA, capA, rfl, hcA, hmA, hfA⟩ := ht.form
          have HT := Lib.hid ht
          have c10 := RowV.c0 h0
          have c11 := RowV.c1 h0
          have z10 := RowV.z (i := 0) h0
          have z11 := RowV.z (i := 1) h0
          have p0 := RowV.c0 h1
          have p1 := RowV.c1 h1
          have HB := Lib.hid hb
          clear h0 h1 hb ht
          go_wp2
          refine bodyPost_ret (v := .agg #[.slice bA (otr (dpr rs) rs).length capA, .int .i64 (dpr rs)]) (results_one rfl rfl (load_root2 ?_ ?_)) rfl ⟨⟨_, rfl, _, rfl, RowT.low (B := w.heap.size + 1 + 1) (HT.out.keep fun k hk => ?_) (by omega)⟩, (HB.out.setCell (by show w.heap.size ≤ w.heap.size; omega) _).setCell (by show w.heap.size ≤ w.heap.size; omega) _⟩
          · rw [World.cell?_setCell_other _ _ _ _ (by simp), World.cell?_setCell_same _ _ _ c10]
          · exact World.cell?_setCell_same _ _ _ ((World.cell?_setCell_other _ _ _ _ (by simp)).trans c11)
          · have hk2 : k ≠ w.heap.size := by
              rcases hfA with ⟨rfl, -, -⟩ | ⟨g2, rfl, hg2, -, -⟩
              · cases hk
              · have e2 : g2 = k := Option.some.inj hk
                omega
            exact (setCell_heap hk2).trans (setCell_heap hk2)
end Go.Proofs.YtkoghdgfllichaaDoor.Pc
namespace Go.Proofs.YtkoghdgfllichaaDoor.Pc
open Go.RowKit Tp

/-! The quotient of roots. -/
theorem Bd.low {l : List (Nat × Int)} (h : Bd 1000000000 l) : Bd 1000000000000000 l := fun x hx => by have := h x hx; omega
theorem Bd.neg {l : List (Nat × Int)} (h : Bd 1000000000 l) : Bd 1000000000 (negL l) := fun x hx => by
  obtain ⟨y, hy, rfl⟩ := List.mem_map.1 hx
  have := h y hy
  simp only
  omega
theorem RowV.all {w : World} {g : Nat} {t : TypeId} {L : List Value} (h : RowV w g t L) : w.rangeAt g 0 L := fun j v hv => by rw [Nat.zero_add]; exact Tp.RowV.cell h hv
theorem product2 (g cap : Nat) (A1 : Option Addr) (c1 : Nat) (l1 : List (Nat × Int)) (d1 : Int) (A2 : Option Addr) (c2 : Nat) (l2 : List (Nat × Int)) (d2 : Int) (w : World) (hg : g < w.heap.size)
    (k0 : w.cell? ⟨g, 0, none⟩ = some (.slice A1 l1.length c1)) (k1 : w.cell? ⟨g, 1, none⟩ = some (.int .i64 d1)) (k2 : w.cell? ⟨g, 2, none⟩ = some (.slice A2 l2.length c2)) (k3 : w.cell? ⟨g, 3, none⟩ = some (.int .i64 d2))
    (m1 : TmC w w.heap.size (.slice A1 l1.length c1) l1) (m2 : TmC w w.heap.size (.slice A2 l2.length c2) l2) (hl1 : l1.length ≤ 100) (hl2 : l2.length ≤ 100) (b1 : Bd 1000000000 l1) (b2 : Bd 1000000000 l2)
    (hd1 : 1 ≤ d1) (hd1' : d1 ≤ 1000) (hd2 : 1 ≤ d2) (hd2' : d2 ≤ 1000) :
    Calls Tryd.prog 102 #[.slice (some ⟨g, 0, none⟩) 2 cap] w fun e w' => (∃ V, e = .returned V ∧ RootV w' w.heap.size V (scL d2 l1 ++ scL d1 l2) (d1 * d2)) ∧ Below w.heap.size w w' := by
  have e1 : dpr [⟨A1, c1, l1, d1⟩, ⟨A2, c2, l2, d2⟩] = d1 * d2 := by unfold dpr; simp
  have q1 : d1 * d2 / d1 = d2 := Int.mul_ediv_cancel_left _ (by omega)
  have q2 : d1 * d2 / d2 = d1 := Int.mul_ediv_cancel _ (by omega)
  have e2 : otr (d1 * d2) [⟨A1, c1, l1, d1⟩, ⟨A2, c2, l2, d2⟩] = scL d2 l1 ++ scL d1 l2 := by
    show scL (d1 * d2 / d1) l1 ++ (scL (d1 * d2 / d2) l2 ++ []) = _
    rw [q1, q2, List.append_nil]
  have hm := Int.mul_le_mul_of_nonneg_right hd1' (show (0 : Int) ≤ d2 by omega)
  have hm2 := Int.mul_le_mul_of_nonneg_right hd1 (show (0 : Int) ≤ d2 by omega)
  have h := product_any g cap [⟨A1, c1, l1, d1⟩, ⟨A2, c2, l2, d2⟩] w ⟨hg, fun i r hr => by
    match i, hr with
    | 0, hr => cases hr; exact ⟨k0, k1, m1⟩
    | 1, hr => cases hr; exact ⟨k2, k3, m2⟩⟩ {
      n := by simp
      len := fun r hr => by
        simp only [List.mem_cons, List.not_mem_nil, or_false] at hr
        rcases hr with rfl | rfl
        · exact hl1
        · exact hl2
      bd := fun r hr => by
        simp only [List.mem_cons, List.not_mem_nil, or_false] at hr
        rcases hr with rfl | rfl
        · exact b1
        · exact b2
      d := fun r hr => by
        simp only [List.mem_cons, List.not_mem_nil, or_false] at hr
        rw [e1]
        rcases hr with rfl | rfl
        · simp only
          rw [q1]
          exact ⟨hd1, rfl, hd2, by omega⟩
        · simp only
          rw [q2]
          exact ⟨hd2, Int.mul_comm _ _, hd1, by omega⟩
      p := fun i hi => by
        have hi2 : i ≤ 2 := hi
        rcases (show i = 0 ∨ i = 1 ∨ i = 2 by omega) with rfl | rfl | rfl
        · show 1 ≤ dpr [] ∧ dpr [] ≤ 1000000000
          unfold dpr; simp
        · show 1 ≤ dpr [⟨A1, c1, l1, d1⟩] ∧ dpr [⟨A1, c1, l1, d1⟩] ≤ 1000000000
          unfold dpr; simp; omega
        · show 1 ≤ dpr [⟨A1, c1, l1, d1⟩, ⟨A2, c2, l2, d2⟩] ∧ dpr [⟨A1, c1, l1, d1⟩, ⟨A2, c2, l2, d2⟩] ≤ 1000000000
          rw [e1]; omega }
  rw [e1, e2] at h
  exact h
set_option maxRecDepth 100000 in
set_option maxHeartbeats 4000000 in
theorem quotient_any (A1 : Option Addr) (c1 : Nat) (l1 : List (Nat × Int)) (d1 : Int) (A2 : Option Addr) (c2 : Nat) (l2 : List (Nat × Int)) (d2 : Int) (w : World)
    (m1 : TmC w w.heap.size (.slice A1 l1.length c1) l1) (m2 : TmC w w.heap.size (.slice A2 l2.length c2) l2) (hl1 : l1.length ≤ 100) (hl2 : l2.length ≤ 100) (hbd1 : Bd 1000000000 l1) (hbd2 : Bd 1000000000 l2)
    (hd1 : 1 ≤ d1) (hd1' : d1 ≤ 1000) (hd2 : 1 ≤ d2) (hd2' : d2 ≤ 1000) :
    Calls Tryd.prog 104 #[.agg #[.slice A1 l1.length c1, .int .i64 d1], .agg #[.slice A2 l2.length c2, .int .i64 d2]] w fun e w' => (∃ V, e = .returned V ∧ RootV w' w.heap.size V (scL d2 l1 ++ scL d1 (negL l2)) (d1 * d2)) ∧ Below w.heap.size w w' := by
  obtain ⟨W, hW⟩ : ∃ W, W = ((w.alloc (.cells #[.slice A1 l1.length c1, .int .i64 d1] 102)).alloc (.cells #[.slice A2 l2.length c2, .int .i64 d2] 102)).alloc (.cells #[.slice none 0 0, .int .i64 0] 102) := ⟨_, rfl⟩
  have b0 : RowV W w.heap.size 102 [.slice A1 l1.length c1, .int .i64 d1] := by rw [hW]; exact ((RowV.of_alloc w 102 [.slice A1 l1.length c1, .int .i64 d1]).alloc _).alloc _
  have b1 : RowV W (w.heap.size + 1) 102 [.slice A2 l2.length c2, .int .i64 d2] := by
    have h := (RowV.of_alloc (w.alloc (.cells #[.slice A1 l1.length c1, .int .i64 d1] 102)) 102 [.slice A2 l2.length c2, .int .i64 d2]).alloc (.cells #[.slice none 0 0, .int .i64 0] 102)
    rw [World.size_alloc] at h
    rw [hW]; exact h
  have b2 : RowV W (w.heap.size + 1 + 1) 102 [.slice none 0 0, .int .i64 0] := by
    have h := RowV.of_alloc ((w.alloc (.cells #[.slice A1 l1.length c1, .int .i64 d1] 102)).alloc (.cells #[.slice A2 l2.length c2, .int .i64 d2] 102)) 102 [.slice none 0 0, .int .i64 0]
    rw [World.size_alloc, World.size_alloc] at h
    rw [hW]; exact h
  have bw : Below w.heap.size w W := by rw [hW]; exact ((belB w _).alloc (by simp) _).alloc (by simp; omega) _
  have hWs : w.heap.size + 1 + 1 < W.heap.size := b2.lt
  have B0 := Lib.hid b0
  have B1 := Lib.hid b1
  have B2 := Lib.hid b2
  have BW := Lib.hid bw
  have M1 := Lib.hid (m1.up bw)
  have M2 := Lib.hid (m2.up bw)
  clear b0 b1 b2 bw m1 m2
  go_enter Tryd.func104, Tryd.ntmps104
  go_wp2_with fail
  rw [← hW]
  clear hW
  refine wp_region_noPanic ?_
  have hb0 : Below W.heap.size W W.drew := (Below.refl _ _).drew
  refine wp_region_held_drew (S := fun w' => RowV w' w.heap.size 102 [.slice A1 l1.length c1, .int .i64 d1] ∧ RowV w' (w.heap.size + 1) 102 [.slice A2 l2.length c2, .int .i64 d2]) (by kernel_rfl) ⟨B0.out.up hb0, B1.out.up hb0⟩ (fun _ => ?_)
  refine wpAnyH_take (i := 0) (oi := ⟨some 5, _, _, _, _, _⟩) (v := _) rfl (by kernel_rfl) (by kernel_rfl) (by kernel_rfl) (fun _ _ _ h => h) (yieldsIf_load_mid (by rfl) 102 _ rfl w.heap.size 0 rfl [.slice A1 l1.length c1, .int .i64 d1] _ (fun w' h => (RowV.all h.1)) Tryd.underlying102 rfl (szRoot _ _)) ⟨B0.out.up hb0, B1.out.up hb0⟩ ?_
  (try simp only [Act.put, List.setIfInBounds_toArray, List.set_cons_zero, List.set_cons_succ])
  refine wpAnyH_take (i := 1) (oi := ⟨some 6, _, _, _, _, _⟩) (v := _) rfl (by kernel_rfl) (by kernel_rfl) (by kernel_rfl) (fun _ _ _ h => h) (yieldsIf_load_mid (by rfl) 102 _ rfl (w.heap.size + 1) 0 rfl [.slice A2 l2.length c2, .int .i64 d2] _ (fun w' h => (RowV.all h.2)) Tryd.underlying102 rfl (szRoot _ _)) ⟨B0.out.up hb0, B1.out.up hb0⟩ ?_
  (try simp only [Act.put, List.setIfInBounds_toArray, List.set_cons_zero, List.set_cons_succ])
  refine wpAnyH_ready (rs := [2]) (by kernel_rfl) (by simp) (AllReadyH.cons (o := ⟨some 7, _, _, _, _, _⟩) rfl (fun K hK => ?_) AllReadyH.nil)
  rw [if_pos (by rfl)]
  go_simp
  refine (inverse_any A2 c2 l2 d2 _ (M2.out.up hb0) hbd2.low hl2).mono ?_
  rintro e u1 ⟨⟨V, he, hroot⟩, hc1⟩
  subst he
  obtain ⟨v2, rfl, hrow2⟩ := hroot
  have hb1 := hb0.trans (hc1.mono hb0.size)
  (try go_wp2_with fail)
  refine hK.out _ _ ⟨B0.out.up hb1, B1.out.up hb1⟩ (fun _ => ?_)
  clear hK K
  (try simp only [Act.put, List.setIfInBounds_toArray, List.set_cons_zero, List.set_cons_succ])
  obtain ⟨bA, capA, rfl, hcA, hmA, hfA⟩ := hrow2.form
  have HROW := Lib.hid hrow2
  clear hrow2 hfA
  refine wpAnyH_ready (rs := [3]) (by kernel_rfl) (by simp) (AllReadyH.cons (o := ⟨some 8, _, _, _, _, _⟩) rfl (fun K hK => ?_) AllReadyH.nil)
  rw [if_pos (by rfl)]
  go_simp
  (try go_wp2_with fail)
  have hb2 := hb1.alloc hb1.size (.cells #[.slice A1 l1.length c1, .int .i64 d1, .slice bA (negL l2).length capA, .int .i64 d2] 102)
  refine hK.out _ _ ⟨B0.out.up hb2, B1.out.up hb2⟩ (fun _ => ?_)
  clear hK K
  (try simp only [Act.put, List.setIfInBounds_toArray, List.set_cons_zero, List.set_cons_succ])
  refine wpAnyH_ready (rs := [4]) (by kernel_rfl) (by simp) (AllReadyH.cons (o := ⟨some 9, _, _, _, _, _⟩) rfl (fun K hK => ?_) AllReadyH.nil)
  rw [if_pos (by rfl)]
  go_simp
  have hg := heap_alloc_new u1 (.cells #[.slice A1 l1.length c1, .int .i64 d1, .slice bA (negL l2).length capA, .int .i64 d2] 102)
  have hbu := belA u1 (.cells #[.slice A1 l1.length c1, .int .i64 d1, .slice bA (negL l2).length capA, .int .i64 d2] 102)
  refine (product2 u1.heap.size 2 A1 c1 l1 d1 bA capA (negL l2) d2 _ (by simp) (Go.Joins.cell_of_block hg 0) (Go.Joins.cell_of_block hg 1) (Go.Joins.cell_of_block hg 2) (Go.Joins.cell_of_block hg 3) (M1.out.up hb2) (HROW.out.up hbu).tmc hl1 (by rw [negL_len]; exact hl2) hbd1 hbd2.neg hd1 hd1' hd2 hd2').mono ?_
  rintro e u3 ⟨⟨V, he, hroot⟩, hc3⟩
  subst he
  obtain ⟨v3, rfl, hrow3⟩ := hroot
  have hb3 := hb2.trans (hc3.mono hb2.size)
  (try go_wp2_with fail)
  refine hK.out _ _ ⟨B0.out.up hb3, B1.out.up hb3⟩ (fun _ => ?_)
  clear hK K
  (try simp only [Act.put, List.setIfInBounds_toArray, List.set_cons_zero, List.set_cons_succ])
  obtain ⟨eA, capE, rfl, hcE, hmE, hfE⟩ := hrow3.form
  have HROW3 := Lib.hid hrow3
  have hr2 := B2.out.up hb3
  have c20 := RowV.c0 hr2
  have c21 := RowV.c1 hr2
  have z20 := RowV.z (i := 0) hr2
  have z21 := RowV.z (i := 1) hr2
  have bw := BW.out.trans (hb3.mono BW.out.size)
  have hu3 := hb3.size
  clear hrow3 hr2
  refine wpAnyH_ready (rs := [5]) (by kernel_rfl) (by simp) (AllReadyH.cons (o := ⟨none, _, _, _, _, _⟩) rfl (fun K hK => ?_) AllReadyH.nil)
  rw [if_pos (by rfl)]
  go_simp
  skip
  refine hK.out _ _ ⟨RowV.far (RowV.far (B0.out.up hb3) (by omega)) (by omega), RowV.far (RowV.far (B1.out.up hb3) (by omega)) (by omega)⟩ (fun _ => ?_)
  clear hK K
  (try simp only [Act.put, List.setIfInBounds_toArray, List.set_cons_zero, List.set_cons_succ])
  refine wpAnyH_done (by kernel_rfl) ?_ _
  refine NoPanic.normal ?_
  go_wp2
  refine bodyPost_ret (v := .agg #[.slice eA (scL d2 l1 ++ scL d1 (negL l2)).length capE, .int .i64 (d1 * d2)]) (results_one rfl rfl (load_root2 ?_ ?_)) rfl ⟨⟨_, rfl, _, rfl, RowT.low (B := (u1.alloc (.cells #[.slice A1 l1.length c1, .int .i64 d1, .slice bA (negL l2).length capA, .int .i64 d2] 102)).heap.size) (HROW3.out.keep fun k hk => ?_) ?_⟩, (bw.setCell (by show w.heap.size ≤ w.heap.size + 1 + 1; omega) _).setCell (by show w.heap.size ≤ w.heap.size + 1 + 1; omega) _⟩
  · rw [World.cell?_setCell_other _ _ _ _ (by simp), World.cell?_setCell_same _ _ _ c20]
    simp only [List.length_append]
  · exact World.cell?_setCell_same _ _ _ ((World.cell?_setCell_other _ _ _ _ (by simp)).trans c21)
  · have hk2 : k ≠ w.heap.size + 1 + 1 := by
      rcases hfE with ⟨rfl, -, -⟩ | ⟨g2, rfl, hg2, -, -⟩
      · cases hk
      · have e2 : g2 = k := Option.some.inj hk
        have := hb1.size
        rw [World.size_alloc] at hg2
        omega
    exact (setCell_heap hk2).trans (setCell_heap hk2)
  · have := hb1.size
    rw [World.size_alloc]
    omega
end Go.Proofs.YtkoghdgfllichaaDoor.Pc
