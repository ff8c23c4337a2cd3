import Derived.Test.YtmbcejldifobnaaDoorC05
import Derived.Test.YtmbcejldifobnaaDoorC09
import Derived.Deep.AppendLies
import Derived.Test.YtmbcejldifobnaaDoorC07
import Derived.Test.YtmbcejldifobnaaDoorC04
namespace Go.Proofs.YtmbcejldifobnaaDoor.Pc
open Go.RowKit Tp
/-- A root as it is handed in. -/
structure Rr where
  A : Option Addr
  cap : Nat
  l : List (Nat × Int)
  d : Int
def Rr.v (r : Rr) : Value := .slice r.A r.l.length r.cap
def dpr (rs : List Rr) : Int := rs.foldl (fun a r => a * r.d) 1
theorem dpr_step {rs : List Rr} {i : Nat} {r : Rr} (h : rs[i]? = some r) : dpr (rs.take (i + 1)) = dpr (rs.take i) * r.d := by
  unfold dpr
  rw [List.take_add_one, h, List.foldl_append]
  rfl
def otr (D : Int) (rs : List Rr) : List (Nat × Int) := rs.flatMap fun r => scL (D / r.d) r.l
theorem otr_step {D : Int} {rs : List Rr} {i : Nat} {r : Rr} (h : rs[i]? = some r) : otr D (rs.take (i + 1)) = otr D (rs.take i) ++ scL (D / r.d) r.l := by
  unfold otr
  rw [List.take_add_one, h, List.flatMap_append]
  simp
theorem otr_len {D : Int} : ∀ {rs : List Rr}, (∀ r ∈ rs, r.l.length ≤ 100) → (otr D rs).length ≤ 100 * rs.length
  | [], _ => by simp [otr]
  | r :: rs, h => by
    have ih := otr_len (D := D) (rs := rs) fun x hx => h x (by simp [hx])
    have h1 := h r (by simp)
    have e : otr D (r :: rs) = scL (D / r.d) r.l ++ otr D rs := rfl
    rw [e, List.length_append, scL_len, List.length_cons]
    omega
/-- What product asks of its roots. -/
structure PrOk (rs : List Rr) : Prop where
  n : rs.length ≤ 3
  len : ∀ r ∈ rs, r.l.length ≤ 100
  bd : ∀ r ∈ rs, Bd 1000000000 r.l
  d : ∀ r ∈ rs, 1 ≤ r.d ∧ r.d * (dpr rs / r.d) = dpr rs ∧ 1 ≤ dpr rs / r.d ∧ dpr rs / r.d ≤ 1000000
  p : ∀ i, i ≤ rs.length → 1 ≤ dpr (rs.take i) ∧ dpr (rs.take i) ≤ 1000000000
def RowsR (w : World) (g : Nat) (rs : List Rr) : Prop := g < w.heap.size ∧ ∀ i r, rs[i]? = some r → w.cell? ⟨g, i * 2, none⟩ = some r.v ∧ w.cell? ⟨g, i * 2 + 1, none⟩ = some (.int .i64 r.d) ∧ TmC w w.heap.size r.v r.l
def PaRel (w : World) (rs : List Rr) (iv : Value) (wr : World) : Prop :=
  ∃ i : Nat, i ≤ rs.length ∧ iv = .int .i64 (i : Int) ∧ RowV wr w.heap.size 113 [.slice none 0 0, .int .i64 0] ∧ RowV wr (w.heap.size + 1) 113 [.slice none 0 0, .int .i64 (dpr (rs.take i))] ∧ Below w.heap.size w wr
def PbRel (w : World) (rs : List Rr) (iv : Value) (wr : World) : Prop :=
  ∃ (i : Nat) (tv : Value), i ≤ rs.length ∧ iv = .int .i64 (i : Int) ∧ RowV wr w.heap.size 113 [.slice none 0 0, .int .i64 0] ∧ RowV wr (w.heap.size + 1) 113 [tv, .int .i64 (dpr rs)] ∧ RowT wr (w.heap.size + 1 + 1) tv (otr (dpr rs) (rs.take i)) ∧ Below w.heap.size w wr
def PcRel (w : World) (rs : List Rr) (i : Nat) (r : Rr) (rb : Nat) (jv : Value) (wr : World) : Prop :=
  ∃ (j : Nat) (tv : Value), j ≤ r.l.length ∧ jv = .int .i64 (j : Int) ∧ RowV wr w.heap.size 113 [.slice none 0 0, .int .i64 0] ∧ RowV wr (w.heap.size + 1) 113 [tv, .int .i64 (dpr rs)] ∧ RowV wr rb 113 [r.v, .int .i64 r.d] ∧ tv.ownBlock ≠ some rb ∧ RowT wr (w.heap.size + 1 + 1) tv (otr (dpr rs) (rs.take i) ++ scL (dpr rs / r.d) (r.l.take j)) ∧ Below w.heap.size w wr
theorem RowV.c0 {w : World} {g : Nat} {t : TypeId} {x y : Value} (h : RowV w g t [x, y]) : w.cell? ⟨g, 0, none⟩ = some x := h.cell (i := 0) rfl
theorem RowV.c1 {w : World} {g : Nat} {t : TypeId} {x y : Value} (h : RowV w g t [x, y]) : w.cell? ⟨g, 1, none⟩ = some y := h.cell (i := 1) rfl
theorem RowV.z {w : World} {g i : Nat} {t : TypeId} {L : List Value} (h : RowV w g t L) : w.frozen? ⟨g, i, none⟩ = false := by
  have e : w.heap[g]? = some (.cells L.toArray t (0, 0)) := h
  unfold World.frozen?
  simp only [e]
  rfl
theorem mulbd {a E : Int} (h1 : -1000000000 ≤ a) (h2 : a ≤ 1000000000) (h3 : 1 ≤ E) (h4 : E ≤ 1000000) : -1000000000000000 ≤ a * E ∧ a * E ≤ 1000000000000000 := by
  have k1 := Int.mul_le_mul_of_nonneg_right h1 (show (0 : Int) ≤ E by omega)
  have k2 := Int.mul_le_mul_of_nonneg_right h2 (show (0 : Int) ≤ E by omega)
  omega
theorem RowV.far {w : World} {g b i : Nat} {t : TypeId} {L : List Value} {x : Value} (h : RowV w g t L) (hn : g ≠ b) : RowV (w.setCell ⟨b, i, none⟩ x) g t L := (setCell_heap hn).trans h
set_option maxRecDepth 100000 in
set_option maxHeartbeats 4000000 in
theorem product_any (g cap : Nat) (rs : List Rr) (w : World) (hg : RowsR w g rs) (hok : PrOk rs) :
    Calls Tryd.prog 121 #[.slice (some ⟨g, 0, none⟩) rs.length cap] w fun e w' => (∃ V, e = .returned V ∧ RootV w' w.heap.size V (otr (dpr rs) rs) (dpr rs)) ∧ Below w.heap.size w w' := by
  have hr0 : RowV ((w.alloc (.cells #[.slice none 0 0, .int .i64 0] 113)).alloc (.cells #[.slice none 0 0, .int .i64 1] 113)) w.heap.size 113 [.slice none 0 0, .int .i64 0] := (RowV.of_alloc w 113 [.slice none 0 0, .int .i64 0]).alloc _
  have hr1 : RowV ((w.alloc (.cells #[.slice none 0 0, .int .i64 0] 113)).alloc (.cells #[.slice none 0 0, .int .i64 1] 113)) (w.heap.size + 1) 113 [.slice none 0 0, .int .i64 1] := by
    have h := RowV.of_alloc (w.alloc (.cells #[.slice none 0 0, .int .i64 0] 113)) 113 [.slice none 0 0, .int .i64 1]
    rw [World.size_alloc] at h
    exact h
  have hb0 := (belB w (.cells #[.slice none 0 0, .int .i64 0] 113)).alloc (by simp) (.cells #[.slice none 0 0, .int .i64 1] 113)
  have hgl := hg.1
  have hn3 := hok.n
  have HG := Lib.hid hg.2
  have HOK := Lib.hid hok
  have H0 := Lib.hid hr0
  have H1 := Lib.hid hr1
  have HB := Lib.hid hb0
  have hnI : (rs.length : Int) ≤ 3 := by omega
  clear hg hok hr0 hr1 hb0
  go_enter Tryd.func121, Tryd.ntmps121
  go_wp2
  go_loopw [13] (fun iv wr => PaRel w rs iv wr) (fun iv _ => rs.length - (intOf iv).toNat)
  case atStart => exact ⟨0, Nat.zero_le _, rfl, H0.out, H1.out, HB.out⟩
  case round =>
    clear H0 H1 HB
    obtain ⟨i, hi, rfl, h0, h1, hb⟩ := hrel
    have hzs := hb.size
    have h1lt := h1.lt
    by_cases hil : i < rs.length
    · obtain ⟨r, hr⟩ : ∃ r, rs[i]? = some r := ⟨rs[i], List.getElem?_eq_getElem _⟩
      have hmem := List.mem_of_getElem? hr
      obtain ⟨k1, k2, -⟩ := HG.out i r hr
      obtain ⟨d1, -, -, -⟩ := HOK.out.d r hmem
      obtain ⟨p1, p2⟩ := HOK.out.p i (by omega)
      obtain ⟨q1, q2⟩ := HOK.out.p (i + 1) (by omega)
      have hst := dpr_step hr
      rw [hst] at q1 q2
      have c1 : wr.cell? ⟨g, i * 2, none⟩ = some r.v := (hb.cell (p := ⟨g, _, none⟩) hgl).trans k1
      have c2 : wr.cell? ⟨g, i * 2 + 1, none⟩ = some (.int .i64 r.d) := (hb.cell (p := ⟨g, _, none⟩) hgl).trans k2
      have c3 := RowV.c1 h1
      have z3 := RowV.z (i := 1) h1
      have hilI : (i : Int) < (rs.length : Int) := by omega
      have hiI : (0 : Int) ≤ (i : Int) := by omega
      have H0 := Lib.hid h0
      have H1 := Lib.hid h1
      have HB := Lib.hid hb
      have HST := Lib.hid hst
      have wq : IntKind.i64.wrap (dpr (rs.take i) * r.d) = dpr (rs.take i) * r.d := IntWalk.i64_in _ (by omega)
      clear h0 h1 hb hst k1 k2 hr hmem q1 q2 p1 p2 d1
      obtain ⟨dp, hdp⟩ : ∃ dp, dp = dpr (rs.take i) := ⟨_, rfl⟩
      rw [← hdp] at c3 wq
      have HDP := Lib.hid hdp
      unfold Rr.v at c1
      clear hdp
      go_wp2
      rw [HDP.out, ← HST.out]
      refine ⟨⟨i + 1, by omega, by go_num, ?_, ?_, ?_⟩, by simp [intOf]; omega⟩
      · exact RowV.alloc (RowV.far H0.out (by omega)) _
      · exact RowV.alloc (RowV.setCell H1.out 1 _) _
      · exact (HB.out.setCell (by show w.heap.size ≤ w.heap.size + 1; omega) _).alloc (by simp only [World.size_setCell]; exact hzs) _
    · obtain rfl : i = rs.length := by omega
      rw [List.take_length] at h1
      have H0 := Lib.hid h0
      have H1 := Lib.hid h1
      have HB := Lib.hid hb
      clear h0 h1 hb
      go_wp2
      go_loopw [26] (fun iv wr => PbRel w rs iv wr) (fun iv _ => rs.length - (intOf iv).toNat)
      case atStart => exact ⟨0, _, Nat.zero_le _, rfl, H0.out, H1.out, RowT.nil _ _, HB.out⟩
      case round =>
        clear H0 H1 HB
        obtain ⟨i, tv, hi, rfl, h0, h1, ht, hb⟩ := hrel
        have hzs := hb.size
        have h1lt := h1.lt
        by_cases hil : i < rs.length
        · obtain ⟨⟨rA, rcap, rl, rd⟩, hr⟩ : ∃ r, rs[i]? = some r := ⟨rs[i], List.getElem?_eq_getElem _⟩
          have hmem := List.mem_of_getElem? hr
          obtain ⟨k1, k2, k3⟩ := HG.out i _ hr
          unfold Rr.v at k1 k3
          simp only at k1 k2 k3
          have c1 : wr.cell? ⟨g, i * 2, none⟩ = some (.slice rA rl.length rcap) := (hb.cell (p := ⟨g, _, none⟩) hgl).trans k1
          have c2 : wr.cell? ⟨g, i * 2 + 1, none⟩ = some (.int .i64 rd) := (hb.cell (p := ⟨g, _, none⟩) hgl).trans k2
          have hilI : (i : Int) < (rs.length : Int) := by omega
          have hiI : (0 : Int) ≤ (i : Int) := by omega
          have hll : rl.length ≤ 100 := HOK.out.len _ hmem
          have hllI : (rl.length : Int) ≤ 100 := by omega
          have H0 := Lib.hid (h0.alloc (.cells #[.slice rA rl.length rcap, .int .i64 rd] 113))
          have H1 := Lib.hid (h1.alloc (.cells #[.slice rA rl.length rcap, .int .i64 rd] 113))
          have HR := Lib.hid (RowV.of_alloc wr 113 [.slice rA rl.length rcap, .int .i64 rd])
          have HTV := Lib.hid (ht.up (belB wr (.cells #[.slice rA rl.length rcap, .int .i64 rd] 113)))
          have hne : tv.ownBlock ≠ some wr.heap.size := fun e => by have := (ht.lt _ e).2; omega
          have HNE := Lib.hid hne
          have HB := Lib.hid (hb.alloc hzs (.cells #[.slice rA rl.length rcap, .int .i64 rd] 113))
          have HK3 := Lib.hid k3
          have HRI := Lib.hid hr
          have HMEM := Lib.hid hmem
          clear h0 h1 hb k1 k2 k3 hr hmem ht hne
          go_wp2
          generalize wr.heap.size = rb at *
          go_loopw [33] (fun jv wq => PcRel w rs i ⟨rA, rcap, rl, rd⟩ rb jv wq) (fun jv _ => rl.length - (intOf jv).toNat)
          case atStart => exact ⟨0, _, Nat.zero_le _, rfl, H0.out, H1.out, HR.out, HNE.out, (by
            have h := HTV.out
            show RowT _ _ _ (otr (dpr rs) (rs.take i) ++ [])
            rw [List.append_nil]
            exact h), HB.out⟩
          case round =>
            clear H0 H1 HR HTV HNE HB
            obtain ⟨j, tv2, hj, rfl, h0, h1, hr, hne, ht, hb⟩ := hrel
            by_cases hjl : j < rl.length
            · obtain ⟨⟨n, a⟩, hx⟩ : ∃ x, rl[j]? = some x := ⟨rl[j], List.getElem?_eq_getElem _⟩
              have hbd : -1000000000 ≤ a ∧ a ≤ 1000000000 := HOK.out.bd _ HMEM.out _ (List.mem_of_getElem? hx)
              obtain ⟨ed1, ed2, ed3, ed4⟩ := HOK.out.d _ HMEM.out
              simp only at ed1 ed2 ed3 ed4
              obtain ⟨ma1, ma2⟩ := mulbd hbd.1 hbd.2 ed3 ed4
              obtain ⟨A2, cap2, e2, -, hcell⟩ := HK3.out
              cases e2
              obtain ⟨g2, o, rfl, hg2, hcc⟩ := hcell (by intro e; rw [e] at hjl; exact Nat.not_lt_zero _ hjl)
              obtain ⟨k1, k2⟩ := hcc j _ hx
              have c1 : wr.cell? ⟨g2, o + j * 2, none⟩ = some (.int .i64 (n : Int)) := (hb.cell (p := ⟨g2, _, none⟩) hg2).trans k1
              have c2 : wr.cell? ⟨g2, o + j * 2 + 1, none⟩ = some (.int .i64 a) := (hb.cell (p := ⟨g2, _, none⟩) hg2).trans k2
              have hjI : (j : Int) < (rl.length : Int) := by omega
              have hjI0 : (0 : Int) ≤ (j : Int) := by omega
              have hsl := scL_take (dpr rs / rd) rl hx
              have hol := otr_len (D := dpr rs) (rs := rs.take i) (fun x hx => HOK.out.len x (List.mem_of_mem_take hx))
              have htk : (rs.take i).length ≤ 3 := by rw [List.length_take]; omega
              obtain ⟨LL, hLL⟩ : ∃ LL, LL = otr (dpr rs) (rs.take i) ++ scL (dpr rs / rd) (rl.take j) := ⟨_, rfl⟩
              have hll2 : LL.length ≤ 500 := by rw [hLL, List.length_append, scL_len, List.length_take]; omega
              have hnext : otr (dpr rs) (rs.take i) ++ scL (dpr rs / rd) (rl.take (j + 1)) = LL ++ [(n, a * (dpr rs / rd))] := by rw [hLL, hsl, List.append_assoc]
              rw [← hLL] at ht
              obtain ⟨D, hD⟩ : ∃ D, D = dpr rs := ⟨_, rfl⟩
              obtain ⟨E, hE⟩ : ∃ E, E = dpr rs / rd := ⟨_, rfl⟩
              rw [← hE] at hnext ma1 ma2 ed2 ed3 ed4
              rw [← hD] at h1
              have hq1 : D.tdiv rd = E := by rw [hD, hE, Int.tdiv_eq_ediv_of_nonneg (by have := HOK.out.p rs.length (Nat.le_refl _); rw [List.take_length] at this; omega)]
              have hq2 : D / rd = E := by rw [hD, hE]
              have hd0 : ¬ rd = 0 := by omega
              have hd0b : (rd == 0) = false := by simp [hd0]
              have we : IntKind.i64.wrap E = E := IntWalk.i64_in _ (by omega)
              have wm : IntKind.i64.wrap (a * E) = a * E := IntWalk.i64_in _ (by omega)
              have hzs2 := hb.size
              have h1l := h1.lt
              have hrl := hr.lt
              have HNX := Lib.hid hnext
              have HDD := Lib.hid hD
              have HEE := Lib.hid hE
              obtain ⟨bA, capA, rfl, hcA, hmA, hfA⟩ := ht.form
              obtain ⟨W, hW⟩ : ∃ W, W = wr.alloc (.cells #[.int .i64 (n : Int), .int .i64 a] 84) := ⟨_, rfl⟩
              have a0 : RowV W w.heap.size 113 [.slice none 0 0, .int .i64 0] := by rw [hW]; exact h0.alloc _
              have a1 : RowV W (w.heap.size + 1) 113 [.slice bA LL.length capA, .int .i64 D] := by rw [hW]; exact h1.alloc _
              have a2 : RowV W rb 113 [.slice (some ⟨g2, o, none⟩) rl.length rcap, .int .i64 rd] := by rw [hW]; exact hr.alloc _
              have a3 : RowV W wr.heap.size 84 [.int .i64 (n : Int), .int .i64 a] := by rw [hW]; exact RowV.of_alloc wr 84 [.int .i64 (n : Int), .int .i64 a]
              have a4 : RowT W (w.heap.size + 1 + 1) (.slice bA LL.length capA) LL := by rw [hW]; exact ht.up (belB wr _)
              have a5 : Below w.heap.size w W := by rw [hW]; exact hb.alloc hzs2 _
              have a6 : (Value.slice bA LL.length capA).ownBlock ≠ some wr.heap.size := fun e => by have := (ht.lt _ e).2; omega
              have hWs : W.heap.size = wr.heap.size + 1 := by rw [hW]; simp
              have hbA : ∀ k, (Value.slice bA LL.length capA).ownBlock = some k → w.heap.size + 1 + 1 ≤ k ∧ k < wr.heap.size := fun k e => by
                rcases hfA with ⟨rfl, -, -⟩ | ⟨g3, rfl, hg3, hg4, -⟩
                · cases e
                · have e2 : g3 = k := Option.some.inj e
                  omega
              have HBA := Lib.hid hbA
              clear h0 h1 hr ht hb k1 k2 hcell hcc hx hbd hsl hol htk hLL hnext hD hE hfA ma1 ma2 hbA
              go_wp2_with fail
              rw [← hW]
              clear hW c1 c2
              generalize wr.heap.size = tb at *
              have A0 := Lib.hid a0
              have A1 := Lib.hid a1
              have A2 := Lib.hid a2
              have A3 := Lib.hid a3
              have A4 := Lib.hid a4
              have A5 := Lib.hid a5
              have A6 := Lib.hid a6
              have HNE := Lib.hid hne
              clear a0 a1 a2 a3 a4 a5 a6 hne
              obtain ⟨i0, hi0, hz0, hz1, hz2⟩ := info_parts Tryd.infoT
              refine wp_region_noPanic ?_
              have hb0 : Below W.heap.size W W.drew := (Below.refl _ _).drew
              have hs0 : W.drew.cell? ⟨tb, 0, none⟩ = some (.int .i64 (n : Int)) ∧ W.drew.cell? ⟨tb, 1, none⟩ = some (.int .i64 a) ∧ W.drew.cell? ⟨rb, 1, none⟩ = some (.int .i64 rd) ∧ W.drew.cell? ⟨w.heap.size + 1, 1, none⟩ = some (.int .i64 D) := ⟨RowV.c0 (A3.out.up hb0), RowV.c1 (A3.out.up hb0), RowV.c1 (A2.out.up hb0), RowV.c1 (A1.out.up hb0)⟩
              have cA0 : W.drew.cell? ⟨w.heap.size + 1, 0, none⟩ = some (.slice bA LL.length capA) := RowV.c0 (A1.out.up hb0)
              refine wp_region_held_drew (S := fun w' => w'.cell? ⟨tb, 0, none⟩ = some (.int .i64 (n : Int)) ∧ w'.cell? ⟨tb, 1, none⟩ = some (.int .i64 a) ∧ w'.cell? ⟨rb, 1, none⟩ = some (.int .i64 rd) ∧ w'.cell? ⟨w.heap.size + 1, 1, none⟩ = some (.int .i64 D)) (by kernel_rfl) hs0 (fun _ => ?_)
              refine wpAnyH_take (i := 0) (oi := ⟨some 37, _, _, _, _, _⟩) (v := .pointer (some ⟨w.heap.size + 1, 0, none⟩)) rfl (by kernel_rfl) (by kernel_rfl) (by kernel_rfl) (fun _ _ _ h => h) (Or.inl ⟨by rfl, fun w' hS => by obtain ⟨e0, e1, e2, e3⟩ := hS; go_simp; (try (with_reducible rfl))⟩) hs0 ?_
              (try simp only [Act.put, List.setIfInBounds_toArray, List.set_cons_zero, List.set_cons_succ])
              refine wpAnyH_take (i := 2) (oi := ⟨some 39, _, _, _, _, _⟩) (v := .pointer (some ⟨tb, 0, none⟩)) rfl (by kernel_rfl) (by kernel_rfl) (by kernel_rfl) (fun _ _ _ h => h) (Or.inl ⟨by rfl, fun w' hS => by obtain ⟨e0, e1, e2, e3⟩ := hS; go_simp; (try (with_reducible rfl))⟩) hs0 ?_
              (try simp only [Act.put, List.setIfInBounds_toArray, List.set_cons_zero, List.set_cons_succ])
              refine wpAnyH_take (i := 3) (oi := ⟨some 40, _, _, _, _, _⟩) (v := .int .i64 (n : Int)) rfl (by kernel_rfl) (by kernel_rfl) (by kernel_rfl) (fun _ _ _ h => h) (Or.inl ⟨by rfl, fun w' hS => by obtain ⟨e0, e1, e2, e3⟩ := hS; go_simp; (try (with_reducible rfl))⟩) hs0 ?_
              (try simp only [Act.put, List.setIfInBounds_toArray, List.set_cons_zero, List.set_cons_succ])
              refine wpAnyH_take (i := 4) (oi := ⟨some 41, _, _, _, _, _⟩) (v := .pointer (some ⟨tb, 1, none⟩)) rfl (by kernel_rfl) (by kernel_rfl) (by kernel_rfl) (fun _ _ _ h => h) (Or.inl ⟨by rfl, fun w' hS => by obtain ⟨e0, e1, e2, e3⟩ := hS; go_simp; (try (with_reducible rfl))⟩) hs0 ?_
              (try simp only [Act.put, List.setIfInBounds_toArray, List.set_cons_zero, List.set_cons_succ])
              refine wpAnyH_take (i := 5) (oi := ⟨some 42, _, _, _, _, _⟩) (v := .int .i64 a) rfl (by kernel_rfl) (by kernel_rfl) (by kernel_rfl) (fun _ _ _ h => h) (Or.inl ⟨by rfl, fun w' hS => by obtain ⟨e0, e1, e2, e3⟩ := hS; go_simp; (try (with_reducible rfl))⟩) hs0 ?_
              (try simp only [Act.put, List.setIfInBounds_toArray, List.set_cons_zero, List.set_cons_succ])
              refine wpAnyH_take (i := 6) (oi := ⟨some 43, _, _, _, _, _⟩) (v := .pointer (some ⟨w.heap.size + 1, 1, none⟩)) rfl (by kernel_rfl) (by kernel_rfl) (by kernel_rfl) (fun _ _ _ h => h) (Or.inl ⟨by rfl, fun w' hS => by obtain ⟨e0, e1, e2, e3⟩ := hS; go_simp; (try (with_reducible rfl))⟩) hs0 ?_
              (try simp only [Act.put, List.setIfInBounds_toArray, List.set_cons_zero, List.set_cons_succ])
              refine wpAnyH_take (i := 7) (oi := ⟨some 44, _, _, _, _, _⟩) (v := .int .i64 D) rfl (by kernel_rfl) (by kernel_rfl) (by kernel_rfl) (fun _ _ _ h => h) (Or.inl ⟨by rfl, fun w' hS => by obtain ⟨e0, e1, e2, e3⟩ := hS; go_simp; (try (with_reducible rfl))⟩) hs0 ?_
              (try simp only [Act.put, List.setIfInBounds_toArray, List.set_cons_zero, List.set_cons_succ])
              refine wpAnyH_take (i := 8) (oi := ⟨some 45, _, _, _, _, _⟩) (v := .pointer (some ⟨rb, 1, none⟩)) rfl (by kernel_rfl) (by kernel_rfl) (by kernel_rfl) (fun _ _ _ h => h) (Or.inl ⟨by rfl, fun w' hS => by obtain ⟨e0, e1, e2, e3⟩ := hS; go_simp; (try (with_reducible rfl))⟩) hs0 ?_
              (try simp only [Act.put, List.setIfInBounds_toArray, List.set_cons_zero, List.set_cons_succ])
              refine wpAnyH_take (i := 9) (oi := ⟨some 46, _, _, _, _, _⟩) (v := .int .i64 rd) rfl (by kernel_rfl) (by kernel_rfl) (by kernel_rfl) (fun _ _ _ h => h) (Or.inl ⟨by rfl, fun w' hS => by obtain ⟨e0, e1, e2, e3⟩ := hS; go_simp; (try (with_reducible rfl))⟩) hs0 ?_
              (try simp only [Act.put, List.setIfInBounds_toArray, List.set_cons_zero, List.set_cons_succ])
              refine wpAnyH_take (i := 10) (oi := ⟨some 47, _, _, _, _, _⟩) (v := .int .i64 E) rfl (by kernel_rfl) (by kernel_rfl) (by kernel_rfl) (fun _ _ _ h => h) (Or.inl ⟨by rfl, fun w' hS => by obtain ⟨e0, e1, e2, e3⟩ := hS; go_simp; (try (with_reducible rfl))⟩) hs0 ?_
              (try simp only [Act.put, List.setIfInBounds_toArray, List.set_cons_zero, List.set_cons_succ])
              refine wpAnyH_take (i := 11) (oi := ⟨some 48, _, _, _, _, _⟩) (v := .int .i64 (a * E)) rfl (by kernel_rfl) (by kernel_rfl) (by kernel_rfl) (fun _ _ _ h => h) (Or.inl ⟨by rfl, fun w' hS => by obtain ⟨e0, e1, e2, e3⟩ := hS; go_simp; (try (with_reducible rfl))⟩) hs0 ?_
              (try simp only [Act.put, List.setIfInBounds_toArray, List.set_cons_zero, List.set_cons_succ])
              refine wpAnyH_take (i := 12) (oi := ⟨some 49, _, _, _, _, _⟩) (v := .agg #[.int .i64 (n : Int), .int .i64 (a * E)]) rfl (by kernel_rfl) (by kernel_rfl) (by kernel_rfl) (fun _ _ _ h => h) (Or.inl ⟨by rfl, fun w' hS => by obtain ⟨e0, e1, e2, e3⟩ := hS; go_simp; (try (with_reducible rfl))⟩) hs0 ?_
              (try simp only [Act.put, List.setIfInBounds_toArray, List.set_cons_zero, List.set_cons_succ])
              refine wpAnyH_ready (rs := [1, 13]) (by kernel_rfl) (by simp) (AllReadyH.cons (o := ⟨some 38, _, _, _, _, _⟩) rfl (fun K hK => ?_) (AllReadyH.cons (o := ⟨some 50, _, _, _, _, _⟩) rfl (fun K hK => ?_) AllReadyH.nil))
              · rw [if_pos (by rfl)]
                go_simp
                refine hK.out _ _ hs0 (fun _ => ?_)
                clear hK K
                (try simp only [Act.put, List.setIfInBounds_toArray, List.set_cons_zero, List.set_cons_succ])
                refine wpAnyH_ready (rs := [13]) (by kernel_rfl) (by simp) (AllReadyH.cons (o := ⟨some 50, _, _, _, _, _⟩) rfl (fun K hK => ?_) AllReadyH.nil)
                have hb1 := hb0.alloc hb0.size (.cells #[.int .i64 (n : Int), .int .i64 (a * E)] 84)
                have hs1 : (fun w' : World => w'.cell? ⟨tb, 0, none⟩ = some (.int .i64 (n : Int)) ∧ w'.cell? ⟨tb, 1, none⟩ = some (.int .i64 a) ∧ w'.cell? ⟨rb, 1, none⟩ = some (.int .i64 rd) ∧ w'.cell? ⟨w.heap.size + 1, 1, none⟩ = some (.int .i64 D)) (W.drew.alloc (.cells #[.int .i64 (n : Int), .int .i64 (a * E)] 84)) := ⟨RowV.c0 (A3.out.up hb1), RowV.c1 (A3.out.up hb1), RowV.c1 (A2.out.up hb1), RowV.c1 (A1.out.up hb1)⟩
                have cA2 : (W.alloc (.cells #[.int .i64 (n : Int), .int .i64 (a * E)] 84)).cell? ⟨w.heap.size + 1, 0, none⟩ = some (.slice bA LL.length capA) := RowV.c0 (A1.out.alloc (.cells #[.int .i64 (n : Int), .int .i64 (a * E)] 84))
                have cA1 : (W.drew.alloc (.cells #[.int .i64 (n : Int), .int .i64 (a * E)] 84)).cell? ⟨w.heap.size + 1, 0, none⟩ = some (.slice bA LL.length capA) := RowV.c0 (A1.out.up hb1)
                rw [if_pos (by rfl)]
                go_simp
                (try go_wp2_with fail)
                refine hK.out _ _ hs1 (fun _ => ?_)
                clear hK K
                (try simp only [Act.put, List.setIfInBounds_toArray, List.set_cons_zero, List.set_cons_succ])
                refine wpAnyH_ready (rs := [14]) (by kernel_rfl) (by simp) (AllReadyH.cons (o := ⟨some 51, _, _, _, _, _⟩) rfl (fun K hK => ?_) AllReadyH.nil)
                have hrow := A4.out.up hb1
                have hnb : (W.drew.alloc (.cells #[.int .i64 (n : Int), .int .i64 (a * E)] 84)).heap[tb + 1]? = some (.cells #[.int .i64 (n : Int), .int .i64 (a * E)] 84 (0, 0)) := by
                  have h := heap_alloc_new W.drew (.cells #[.int .i64 (n : Int), .int .i64 (a * E)] 84)
                  rw [show W.drew.heap.size = tb + 1 from hWs] at h
                  exact h
                refine step_append_lies _ (by rfl) _ _ _ (by rfl) (w.heap.size + 1 + 1) 84 i0 _ 2 16 Tryd.underlying78 hi0 hz0 hz1 hz2 rfl (by decide) (.slice bA LL.length capA) LL.length (encT LL) (by rfl) hrow ⟨tb + 1, 0, none⟩ 1 1 (encT [(n, a * E)]) (by rfl) (by rfl) (World.news_of_block (cs := #[.int .i64 (n : Int), .int .i64 (a * E)]) (t := 84) (fr := (0, 0)) hnb) (one_encT _) (by omega) (by unfold maxLen; omega) (by omega) (by simp; omega) (tb + 1 + 1) (by simp; omega) ?_
                intro g7 cap7 w7 hown7 hgr7 hat7 hg7
                have hnr : ∀ k, k < tb + 1 → k ≠ tb → k ≤ w.heap.size + 1 ∨ k = rb → ¬ (some k = (Value.slice bA LL.length capA).ownBlock) := fun k h1 h2 h3 e => by
                  have := HBA.out k e.symm
                  rcases h3 with h3 | h3
                  · omega
                  · subst h3; exact HNE.out e.symm
                have hkp : ∀ k, k < tb + 1 → (k ≤ w.heap.size + 1 ∨ k = rb ∨ k = tb) → w7.heap[k]? = W.heap[k]? := fun k h1 h2 => by
                  refine (hgr7.block k (by simp; omega) (fun e => ?_)).trans (hb1.block k (by omega))
                  rcases h2 with h2 | h2 | h2
                  · exact hnr k h1 (by omega) (.inl h2) e
                  · exact hnr k h1 (by omega) (.inr h2) e
                  · subst h2; exact A6.out e.symm
                have r0 : RowV w7 w.heap.size 113 [.slice none 0 0, .int .i64 0] := (hkp _ (by omega) (by omega)).trans A0.out
                have r1 : RowV w7 (w.heap.size + 1) 113 [.slice bA LL.length capA, .int .i64 D] := (hkp _ (by omega) (by omega)).trans A1.out
                have r2 : RowV w7 rb 113 [.slice (some ⟨g2, o, none⟩) rl.length rcap, .int .i64 rd] := (hkp _ (by omega) (by omega)).trans A2.out
                have r3 : RowV w7 tb 84 [.int .i64 (n : Int), .int .i64 a] := (hkp _ (by omega) (by omega)).trans A3.out
                have r5 : Below w.heap.size w w7 := (A5.out.trans (hb1.mono A5.out.size)).grown hgr7 (by simp; omega) (fun k hk => by have := HBA.out k hk; omega)
                have hs7 : w7.cell? ⟨tb, 0, none⟩ = some (.int .i64 (n : Int)) ∧ w7.cell? ⟨tb, 1, none⟩ = some (.int .i64 a) ∧ w7.cell? ⟨rb, 1, none⟩ = some (.int .i64 rd) ∧ w7.cell? ⟨w.heap.size + 1, 1, none⟩ = some (.int .i64 D) := ⟨RowV.c0 r3, RowV.c1 r3, RowV.c1 r2, RowV.c1 r1⟩
                have c70 := RowV.c0 r1
                have z70 := RowV.z (i := 0) r1
                refine hK.out _ _ hs7 (fun _ => ?_)
                clear hK K
                (try simp only [Act.put, List.setIfInBounds_toArray, List.set_cons_zero, List.set_cons_succ])
                refine wpAnyH_ready (rs := [15]) (by kernel_rfl) (by simp) (AllReadyH.cons (o := ⟨some 52, _, _, _, _, _⟩) rfl (fun K hK => ?_) AllReadyH.nil)
                rw [if_pos (by rfl)]
                go_simp
                refine hK.out _ _ hs7 (fun _ => ?_)
                clear hK K
                (try simp only [Act.put, List.setIfInBounds_toArray, List.set_cons_zero, List.set_cons_succ])
                refine wpAnyH_ready (rs := [16]) (by kernel_rfl) (by simp) (AllReadyH.cons (o := ⟨none, _, _, _, _, _⟩) rfl (fun K hK => ?_) AllReadyH.nil)
                rw [if_pos (by rfl)]
                go_simp
                have q0 := RowV.far (b := w.heap.size + 1) (i := 0) (x := .slice (some ⟨g7, 0, none⟩) (LL.length + 1) cap7) r0 (by omega)
                have q1 := RowV.setCell r1 0 (.slice (some ⟨g7, 0, none⟩) (LL.length + 1) cap7)
                have q2 := RowV.far (b := w.heap.size + 1) (i := 0) (x := .slice (some ⟨g7, 0, none⟩) (LL.length + 1) cap7) r2 (by omega)
                have q3 := RowV.far (b := w.heap.size + 1) (i := 0) (x := .slice (some ⟨g7, 0, none⟩) (LL.length + 1) cap7) r3 (by omega)
                refine hK.out _ _ ⟨RowV.c0 q3, RowV.c1 q3, RowV.c1 q2, RowV.c1 q1⟩ (fun _ => ?_)
                clear hK K
                (try simp only [Act.put, List.setIfInBounds_toArray, List.set_cons_zero, List.set_cons_succ])
                refine wpAnyH_done (by kernel_rfl) ?_ _
                refine NoPanic.normal ?_
                go_wp2
                have hrowN : RowT w7 (w.heap.size + 1 + 1) (.slice (some ⟨g7, 0, none⟩) (LL.length + 1) cap7) (LL ++ [(n, a * E)]) := by
                  show World.ownsRow _ _ _ _ _ (LL ++ [(n, a * E)]).length (encT (LL ++ [(n, a * E)]))
                  rw [encT_append, List.length_append]
                  exact hown7
                have hg7b : w.heap.size + 1 + 1 ≤ g7 ∧ g7 ≠ rb := by
                  rcases hat7 with h | h
                  · exact ⟨(HBA.out _ h).1, fun e => by subst e; exact HNE.out h⟩
                  · omega
                refine ⟨⟨j + 1, .slice (some ⟨g7, 0, none⟩) (LL.length + 1) cap7, (by show j + 1 ≤ rl.length; omega), by go_num, q0, by rw [← HDD.out]; exact q1, q2, fun e => hg7b.2 (Option.some.inj e), ?_, r5.setCell (by show w.heap.size ≤ w.heap.size + 1; omega) _⟩, by simp [intOf]; omega⟩
                show RowT _ _ _ (otr (dpr rs) (rs.take i) ++ scL (dpr rs / rd) (rl.take (j + 1)))
                rw [← HEE.out, HNX.out]
                exact hrowN.keep fun k hk => setCell_heap (by have e2 : g7 = k := Option.some.inj hk; omega)
              · have hb1 := hb0.alloc hb0.size (.cells #[.int .i64 (n : Int), .int .i64 (a * E)] 84)
                have hs1 : (fun w' : World => w'.cell? ⟨tb, 0, none⟩ = some (.int .i64 (n : Int)) ∧ w'.cell? ⟨tb, 1, none⟩ = some (.int .i64 a) ∧ w'.cell? ⟨rb, 1, none⟩ = some (.int .i64 rd) ∧ w'.cell? ⟨w.heap.size + 1, 1, none⟩ = some (.int .i64 D)) (W.drew.alloc (.cells #[.int .i64 (n : Int), .int .i64 (a * E)] 84)) := ⟨RowV.c0 (A3.out.up hb1), RowV.c1 (A3.out.up hb1), RowV.c1 (A2.out.up hb1), RowV.c1 (A1.out.up hb1)⟩
                have cA2 : (W.alloc (.cells #[.int .i64 (n : Int), .int .i64 (a * E)] 84)).cell? ⟨w.heap.size + 1, 0, none⟩ = some (.slice bA LL.length capA) := RowV.c0 (A1.out.alloc (.cells #[.int .i64 (n : Int), .int .i64 (a * E)] 84))
                have cA1 : (W.drew.alloc (.cells #[.int .i64 (n : Int), .int .i64 (a * E)] 84)).cell? ⟨w.heap.size + 1, 0, none⟩ = some (.slice bA LL.length capA) := RowV.c0 (A1.out.up hb1)
                rw [if_pos (by rfl)]
                go_simp
                (try go_wp2_with fail)
                refine hK.out _ _ hs1 (fun _ => ?_)
                clear hK K
                (try simp only [Act.put, List.setIfInBounds_toArray, List.set_cons_zero, List.set_cons_succ])
                refine wpAnyH_ready (rs := [1]) (by kernel_rfl) (by simp) (AllReadyH.cons (o := ⟨some 38, _, _, _, _, _⟩) rfl (fun K hK => ?_) AllReadyH.nil)
                rw [if_pos (by rfl)]
                go_simp
                refine hK.out _ _ hs1 (fun _ => ?_)
                clear hK K
                (try simp only [Act.put, List.setIfInBounds_toArray, List.set_cons_zero, List.set_cons_succ])
                refine wpAnyH_ready (rs := [14]) (by kernel_rfl) (by simp) (AllReadyH.cons (o := ⟨some 51, _, _, _, _, _⟩) rfl (fun K hK => ?_) AllReadyH.nil)
                have hrow := A4.out.up hb1
                have hnb : (W.drew.alloc (.cells #[.int .i64 (n : Int), .int .i64 (a * E)] 84)).heap[tb + 1]? = some (.cells #[.int .i64 (n : Int), .int .i64 (a * E)] 84 (0, 0)) := by
                  have h := heap_alloc_new W.drew (.cells #[.int .i64 (n : Int), .int .i64 (a * E)] 84)
                  rw [show W.drew.heap.size = tb + 1 from hWs] at h
                  exact h
                refine step_append_lies _ (by rfl) _ _ _ (by rfl) (w.heap.size + 1 + 1) 84 i0 _ 2 16 Tryd.underlying78 hi0 hz0 hz1 hz2 rfl (by decide) (.slice bA LL.length capA) LL.length (encT LL) (by rfl) hrow ⟨tb + 1, 0, none⟩ 1 1 (encT [(n, a * E)]) (by rfl) (by rfl) (World.news_of_block (cs := #[.int .i64 (n : Int), .int .i64 (a * E)]) (t := 84) (fr := (0, 0)) hnb) (one_encT _) (by omega) (by unfold maxLen; omega) (by omega) (by simp; omega) (tb + 1 + 1) (by simp; omega) ?_
                intro g7 cap7 w7 hown7 hgr7 hat7 hg7
                have hnr : ∀ k, k < tb + 1 → k ≠ tb → k ≤ w.heap.size + 1 ∨ k = rb → ¬ (some k = (Value.slice bA LL.length capA).ownBlock) := fun k h1 h2 h3 e => by
                  have := HBA.out k e.symm
                  rcases h3 with h3 | h3
                  · omega
                  · subst h3; exact HNE.out e.symm
                have hkp : ∀ k, k < tb + 1 → (k ≤ w.heap.size + 1 ∨ k = rb ∨ k = tb) → w7.heap[k]? = W.heap[k]? := fun k h1 h2 => by
                  refine (hgr7.block k (by simp; omega) (fun e => ?_)).trans (hb1.block k (by omega))
                  rcases h2 with h2 | h2 | h2
                  · exact hnr k h1 (by omega) (.inl h2) e
                  · exact hnr k h1 (by omega) (.inr h2) e
                  · subst h2; exact A6.out e.symm
                have r0 : RowV w7 w.heap.size 113 [.slice none 0 0, .int .i64 0] := (hkp _ (by omega) (by omega)).trans A0.out
                have r1 : RowV w7 (w.heap.size + 1) 113 [.slice bA LL.length capA, .int .i64 D] := (hkp _ (by omega) (by omega)).trans A1.out
                have r2 : RowV w7 rb 113 [.slice (some ⟨g2, o, none⟩) rl.length rcap, .int .i64 rd] := (hkp _ (by omega) (by omega)).trans A2.out
                have r3 : RowV w7 tb 84 [.int .i64 (n : Int), .int .i64 a] := (hkp _ (by omega) (by omega)).trans A3.out
                have r5 : Below w.heap.size w w7 := (A5.out.trans (hb1.mono A5.out.size)).grown hgr7 (by simp; omega) (fun k hk => by have := HBA.out k hk; omega)
                have hs7 : w7.cell? ⟨tb, 0, none⟩ = some (.int .i64 (n : Int)) ∧ w7.cell? ⟨tb, 1, none⟩ = some (.int .i64 a) ∧ w7.cell? ⟨rb, 1, none⟩ = some (.int .i64 rd) ∧ w7.cell? ⟨w.heap.size + 1, 1, none⟩ = some (.int .i64 D) := ⟨RowV.c0 r3, RowV.c1 r3, RowV.c1 r2, RowV.c1 r1⟩
                have c70 := RowV.c0 r1
                have z70 := RowV.z (i := 0) r1
                refine hK.out _ _ hs7 (fun _ => ?_)
                clear hK K
                (try simp only [Act.put, List.setIfInBounds_toArray, List.set_cons_zero, List.set_cons_succ])
                refine wpAnyH_ready (rs := [15]) (by kernel_rfl) (by simp) (AllReadyH.cons (o := ⟨some 52, _, _, _, _, _⟩) rfl (fun K hK => ?_) AllReadyH.nil)
                rw [if_pos (by rfl)]
                go_simp
                refine hK.out _ _ hs7 (fun _ => ?_)
                clear hK K
                (try simp only [Act.put, List.setIfInBounds_toArray, List.set_cons_zero, List.set_cons_succ])
                refine wpAnyH_ready (rs := [16]) (by kernel_rfl) (by simp) (AllReadyH.cons (o := ⟨none, _, _, _, _, _⟩) rfl (fun K hK => ?_) AllReadyH.nil)
                rw [if_pos (by rfl)]
                go_simp
                have q0 := RowV.far (b := w.heap.size + 1) (i := 0) (x := .slice (some ⟨g7, 0, none⟩) (LL.length + 1) cap7) r0 (by omega)
                have q1 := RowV.setCell r1 0 (.slice (some ⟨g7, 0, none⟩) (LL.length + 1) cap7)
                have q2 := RowV.far (b := w.heap.size + 1) (i := 0) (x := .slice (some ⟨g7, 0, none⟩) (LL.length + 1) cap7) r2 (by omega)
                have q3 := RowV.far (b := w.heap.size + 1) (i := 0) (x := .slice (some ⟨g7, 0, none⟩) (LL.length + 1) cap7) r3 (by omega)
                refine hK.out _ _ ⟨RowV.c0 q3, RowV.c1 q3, RowV.c1 q2, RowV.c1 q1⟩ (fun _ => ?_)
                clear hK K
                (try simp only [Act.put, List.setIfInBounds_toArray, List.set_cons_zero, List.set_cons_succ])
                refine wpAnyH_done (by kernel_rfl) ?_ _
                refine NoPanic.normal ?_
                go_wp2
                have hrowN : RowT w7 (w.heap.size + 1 + 1) (.slice (some ⟨g7, 0, none⟩) (LL.length + 1) cap7) (LL ++ [(n, a * E)]) := by
                  show World.ownsRow _ _ _ _ _ (LL ++ [(n, a * E)]).length (encT (LL ++ [(n, a * E)]))
                  rw [encT_append, List.length_append]
                  exact hown7
                have hg7b : w.heap.size + 1 + 1 ≤ g7 ∧ g7 ≠ rb := by
                  rcases hat7 with h | h
                  · exact ⟨(HBA.out _ h).1, fun e => by subst e; exact HNE.out h⟩
                  · omega
                refine ⟨⟨j + 1, .slice (some ⟨g7, 0, none⟩) (LL.length + 1) cap7, (by show j + 1 ≤ rl.length; omega), by go_num, q0, by rw [← HDD.out]; exact q1, q2, fun e => hg7b.2 (Option.some.inj e), ?_, r5.setCell (by show w.heap.size ≤ w.heap.size + 1; omega) _⟩, by simp [intOf]; omega⟩
                show RowT _ _ _ (otr (dpr rs) (rs.take i) ++ scL (dpr rs / rd) (rl.take (j + 1)))
                rw [← HEE.out, HNX.out]
                exact hrowN.keep fun k hk => setCell_heap (by have e2 : g7 = k := Option.some.inj hk; omega)
            · have hjr : j ≤ rl.length := hj
              obtain rfl : j = rl.length := by omega
              simp only [List.take_length] at ht
              have H0 := Lib.hid h0
              have H1 := Lib.hid h1
              have HT := Lib.hid ht
              have HB := Lib.hid hb
              clear h0 h1 hr hne ht hb
              go_wp2
              refine ⟨⟨i + 1, tv2, by omega, by go_num, H0.out, H1.out, ?_, HB.out⟩, by simp [intOf]; omega⟩
              rw [otr_step HRI.out]
              exact HT.out
        · obtain rfl : i = rs.length := by omega
          rw [List.take_length] at ht
          obtain ⟨bA, capA, rfl, hcA, hmA, hfA⟩ := ht.form
          have HT := Lib.hid ht
          have c10 := RowV.c0 h0
          have c11 := RowV.c1 h0
          have z10 := RowV.z (i := 0) h0
          have z11 := RowV.z (i := 1) h0
          have p0 := RowV.c0 h1
          have p1 := RowV.c1 h1
          have HB := Lib.hid hb
          clear h0 h1 hb ht
          go_wp2
          refine bodyPost_ret (v := .agg #[.slice bA (otr (dpr rs) rs).length capA, .int .i64 (dpr rs)]) (results_one rfl rfl (load_root2 ?_ ?_)) rfl ⟨⟨_, rfl, _, rfl, RowT.low (B := w.heap.size + 1 + 1) (HT.out.keep fun k hk => ?_) (by omega)⟩, (HB.out.setCell (by show w.heap.size ≤ w.heap.size; omega) _).setCell (by show w.heap.size ≤ w.heap.size; omega) _⟩
          · rw [World.cell?_setCell_other _ _ _ _ (by simp), World.cell?_setCell_same _ _ _ c10]
          · exact World.cell?_setCell_same _ _ _ ((World.cell?_setCell_other _ _ _ _ (by simp)).trans c11)
          · have hk2 : k ≠ w.heap.size := by
              rcases hfA with ⟨rfl, -, -⟩ | ⟨g2, rfl, hg2, -, -⟩
              · cases hk
              · have e2 : g2 = k := Option.some.inj hk
                omega
            exact (setCell_heap hk2).trans (setCell_heap hk2)
end Go.Proofs.YtmbcejldifobnaaDoor.Pc

namespace Go.Proofs.YtmbcejldifobnaaDoor.Pc
open Go.RowKit Tp
theorem Bd.low {l : List (Nat × Int)} (h : Bd 1000000000 l) : Bd 1000000000000000 l := fun x hx => by have := h x hx; omega
theorem Bd.neg {l : List (Nat × Int)} (h : Bd 1000000000 l) : Bd 1000000000 (negL l) := fun x hx => by
  obtain ⟨y, hy, rfl⟩ := List.mem_map.1 hx
  have := h y hy
  simp only
  omega
theorem RowV.all {w : World} {g : Nat} {t : TypeId} {L : List Value} (h : RowV w g t L) : w.rangeAt g 0 L := fun j v hv => by rw [Nat.zero_add]; exact Tp.RowV.cell h hv
theorem product2 (g cap : Nat) (A1 : Option Addr) (c1 : Nat) (l1 : List (Nat × Int)) (d1 : Int) (A2 : Option Addr) (c2 : Nat) (l2 : List (Nat × Int)) (d2 : Int) (w : World) (hg : g < w.heap.size)
    (k0 : w.cell? ⟨g, 0, none⟩ = some (.slice A1 l1.length c1)) (k1 : w.cell? ⟨g, 1, none⟩ = some (.int .i64 d1)) (k2 : w.cell? ⟨g, 2, none⟩ = some (.slice A2 l2.length c2)) (k3 : w.cell? ⟨g, 3, none⟩ = some (.int .i64 d2))
    (m1 : TmC w w.heap.size (.slice A1 l1.length c1) l1) (m2 : TmC w w.heap.size (.slice A2 l2.length c2) l2) (hl1 : l1.length ≤ 100) (hl2 : l2.length ≤ 100) (b1 : Bd 1000000000 l1) (b2 : Bd 1000000000 l2)
    (hd1 : 1 ≤ d1) (hd1' : d1 ≤ 1000) (hd2 : 1 ≤ d2) (hd2' : d2 ≤ 1000) :
    Calls Tryd.prog 121 #[.slice (some ⟨g, 0, none⟩) 2 cap] w fun e w' => (∃ V, e = .returned V ∧ RootV w' w.heap.size V (scL d2 l1 ++ scL d1 l2) (d1 * d2)) ∧ Below w.heap.size w w' := by
  have e1 : dpr [⟨A1, c1, l1, d1⟩, ⟨A2, c2, l2, d2⟩] = d1 * d2 := by unfold dpr; simp
  have q1 : d1 * d2 / d1 = d2 := Int.mul_ediv_cancel_left _ (by omega)
  have q2 : d1 * d2 / d2 = d1 := Int.mul_ediv_cancel _ (by omega)
  have e2 : otr (d1 * d2) [⟨A1, c1, l1, d1⟩, ⟨A2, c2, l2, d2⟩] = scL d2 l1 ++ scL d1 l2 := by
    show scL (d1 * d2 / d1) l1 ++ (scL (d1 * d2 / d2) l2 ++ []) = _
    rw [q1, q2, List.append_nil]
  have hm := Int.mul_le_mul_of_nonneg_right hd1' (show (0 : Int) ≤ d2 by omega)
  have hm2 := Int.mul_le_mul_of_nonneg_right hd1 (show (0 : Int) ≤ d2 by omega)
  have h := product_any g cap [⟨A1, c1, l1, d1⟩, ⟨A2, c2, l2, d2⟩] w ⟨hg, fun i r hr => by
    match i, hr with
    | 0, hr => cases hr; exact ⟨k0, k1, m1⟩
    | 1, hr => cases hr; exact ⟨k2, k3, m2⟩⟩ {
      n := by simp
      len := fun r hr => by
        simp only [List.mem_cons, List.not_mem_nil, or_false] at hr
        rcases hr with rfl | rfl
        · exact hl1
        · exact hl2
      bd := fun r hr => by
        simp only [List.mem_cons, List.not_mem_nil, or_false] at hr
        rcases hr with rfl | rfl
        · exact b1
        · exact b2
      d := fun r hr => by
        simp only [List.mem_cons, List.not_mem_nil, or_false] at hr
        rw [e1]
        rcases hr with rfl | rfl
        · simp only
          rw [q1]
          exact ⟨hd1, rfl, hd2, by omega⟩
        · simp only
          rw [q2]
          exact ⟨hd2, Int.mul_comm _ _, hd1, by omega⟩
      p := fun i hi => by
        have hi2 : i ≤ 2 := hi
        rcases (show i = 0 ∨ i = 1 ∨ i = 2 by omega) with rfl | rfl | rfl
        · show 1 ≤ dpr [] ∧ dpr [] ≤ 1000000000
          unfold dpr; simp
        · show 1 ≤ dpr [⟨A1, c1, l1, d1⟩] ∧ dpr [⟨A1, c1, l1, d1⟩] ≤ 1000000000
          unfold dpr; simp; omega
        · show 1 ≤ dpr [⟨A1, c1, l1, d1⟩, ⟨A2, c2, l2, d2⟩] ∧ dpr [⟨A1, c1, l1, d1⟩, ⟨A2, c2, l2, d2⟩] ≤ 1000000000
          rw [e1]; omega }
  rw [e1, e2] at h
  exact h
set_option maxRecDepth 100000 in
set_option maxHeartbeats 4000000 in
theorem quotient_any (A1 : Option Addr) (c1 : Nat) (l1 : List (Nat × Int)) (d1 : Int) (A2 : Option Addr) (c2 : Nat) (l2 : List (Nat × Int)) (d2 : Int) (w : World)
    (m1 : TmC w w.heap.size (.slice A1 l1.length c1) l1) (m2 : TmC w w.heap.size (.slice A2 l2.length c2) l2) (hl1 : l1.length ≤ 100) (hl2 : l2.length ≤ 100) (hbd1 : Bd 1000000000 l1) (hbd2 : Bd 1000000000 l2)
    (hd1 : 1 ≤ d1) (hd1' : d1 ≤ 1000) (hd2 : 1 ≤ d2) (hd2' : d2 ≤ 1000) :
    Calls Tryd.prog 126 #[.agg #[.slice A1 l1.length c1, .int .i64 d1], .agg #[.slice A2 l2.length c2, .int .i64 d2]] w fun e w' => (∃ V, e = .returned V ∧ RootV w' w.heap.size V (scL d2 l1 ++ scL d1 (negL l2)) (d1 * d2)) ∧ Below w.heap.size w w' := by
  obtain ⟨W, hW⟩ : ∃ W, W = ((w.alloc (.cells #[.slice A1 l1.length c1, .int .i64 d1] 113)).alloc (.cells #[.slice A2 l2.length c2, .int .i64 d2] 113)).alloc (.cells #[.slice none 0 0, .int .i64 0] 113) := ⟨_, rfl⟩
  have b0 : RowV W w.heap.size 113 [.slice A1 l1.length c1, .int .i64 d1] := by rw [hW]; exact ((RowV.of_alloc w 113 [.slice A1 l1.length c1, .int .i64 d1]).alloc _).alloc _
  have b1 : RowV W (w.heap.size + 1) 113 [.slice A2 l2.length c2, .int .i64 d2] := by
    have h := (RowV.of_alloc (w.alloc (.cells #[.slice A1 l1.length c1, .int .i64 d1] 113)) 113 [.slice A2 l2.length c2, .int .i64 d2]).alloc (.cells #[.slice none 0 0, .int .i64 0] 113)
    rw [World.size_alloc] at h
    rw [hW]; exact h
  have b2 : RowV W (w.heap.size + 1 + 1) 113 [.slice none 0 0, .int .i64 0] := by
    have h := RowV.of_alloc ((w.alloc (.cells #[.slice A1 l1.length c1, .int .i64 d1] 113)).alloc (.cells #[.slice A2 l2.length c2, .int .i64 d2] 113)) 113 [.slice none 0 0, .int .i64 0]
    rw [World.size_alloc, World.size_alloc] at h
    rw [hW]; exact h
  have bw : Below w.heap.size w W := by rw [hW]; exact ((belB w _).alloc (by simp) _).alloc (by simp; omega) _
  have hWs : w.heap.size + 1 + 1 < W.heap.size := b2.lt
  have B0 := Lib.hid b0
  have B1 := Lib.hid b1
  have B2 := Lib.hid b2
  have BW := Lib.hid bw
  have M1 := Lib.hid (m1.up bw)
  have M2 := Lib.hid (m2.up bw)
  clear b0 b1 b2 bw m1 m2
  go_enter Tryd.func126, Tryd.ntmps126
  go_wp2_with fail
  rw [← hW]
  clear hW
  refine wp_region_noPanic ?_
  have hb0 : Below W.heap.size W W.drew := (Below.refl _ _).drew
  refine wp_region_held_drew (S := fun w' => RowV w' w.heap.size 113 [.slice A1 l1.length c1, .int .i64 d1] ∧ RowV w' (w.heap.size + 1) 113 [.slice A2 l2.length c2, .int .i64 d2]) (by kernel_rfl) ⟨B0.out.up hb0, B1.out.up hb0⟩ (fun _ => ?_)
  refine wpAnyH_take (i := 0) (oi := ⟨some 5, _, _, _, _, _⟩) (v := _) rfl (by kernel_rfl) (by kernel_rfl) (by kernel_rfl) (fun _ _ _ h => h) (yieldsIf_load_mid (by rfl) 113 _ rfl w.heap.size 0 rfl [.slice A1 l1.length c1, .int .i64 d1] _ (fun w' h => (RowV.all h.1)) Tryd.underlying113 rfl (szRoot _ _)) ⟨B0.out.up hb0, B1.out.up hb0⟩ ?_
  (try simp only [Act.put, List.setIfInBounds_toArray, List.set_cons_zero, List.set_cons_succ])
  refine wpAnyH_take (i := 1) (oi := ⟨some 6, _, _, _, _, _⟩) (v := _) rfl (by kernel_rfl) (by kernel_rfl) (by kernel_rfl) (fun _ _ _ h => h) (yieldsIf_load_mid (by rfl) 113 _ rfl (w.heap.size + 1) 0 rfl [.slice A2 l2.length c2, .int .i64 d2] _ (fun w' h => (RowV.all h.2)) Tryd.underlying113 rfl (szRoot _ _)) ⟨B0.out.up hb0, B1.out.up hb0⟩ ?_
  (try simp only [Act.put, List.setIfInBounds_toArray, List.set_cons_zero, List.set_cons_succ])
  refine wpAnyH_ready (rs := [2]) (by kernel_rfl) (by simp) (AllReadyH.cons (o := ⟨some 7, _, _, _, _, _⟩) rfl (fun K hK => ?_) AllReadyH.nil)
  rw [if_pos (by rfl)]
  go_simp
  refine (inverse_any A2 c2 l2 d2 _ (M2.out.up hb0) hbd2.low hl2).mono ?_
  rintro e u1 ⟨⟨V, he, hroot⟩, hc1⟩
  subst he
  obtain ⟨v2, rfl, hrow2⟩ := hroot
  have hb1 := hb0.trans (hc1.mono hb0.size)
  (try go_wp2_with fail)
  refine hK.out _ _ ⟨B0.out.up hb1, B1.out.up hb1⟩ (fun _ => ?_)
  clear hK K
  (try simp only [Act.put, List.setIfInBounds_toArray, List.set_cons_zero, List.set_cons_succ])
  obtain ⟨bA, capA, rfl, hcA, hmA, hfA⟩ := hrow2.form
  have HROW := Lib.hid hrow2
  clear hrow2 hfA
  refine wpAnyH_ready (rs := [3]) (by kernel_rfl) (by simp) (AllReadyH.cons (o := ⟨some 8, _, _, _, _, _⟩) rfl (fun K hK => ?_) AllReadyH.nil)
  rw [if_pos (by rfl)]
  go_simp
  (try go_wp2_with fail)
  have hb2 := hb1.alloc hb1.size (.cells #[.slice A1 l1.length c1, .int .i64 d1, .slice bA (negL l2).length capA, .int .i64 d2] 113)
  refine hK.out _ _ ⟨B0.out.up hb2, B1.out.up hb2⟩ (fun _ => ?_)
  clear hK K
  (try simp only [Act.put, List.setIfInBounds_toArray, List.set_cons_zero, List.set_cons_succ])
  refine wpAnyH_ready (rs := [4]) (by kernel_rfl) (by simp) (AllReadyH.cons (o := ⟨some 9, _, _, _, _, _⟩) rfl (fun K hK => ?_) AllReadyH.nil)
  rw [if_pos (by rfl)]
  go_simp
  have hg := heap_alloc_new u1 (.cells #[.slice A1 l1.length c1, .int .i64 d1, .slice bA (negL l2).length capA, .int .i64 d2] 113)
  have hbu := belA u1 (.cells #[.slice A1 l1.length c1, .int .i64 d1, .slice bA (negL l2).length capA, .int .i64 d2] 113)
  refine (product2 u1.heap.size 2 A1 c1 l1 d1 bA capA (negL l2) d2 _ (by simp) (Go.Joins.cell_of_block hg 0) (Go.Joins.cell_of_block hg 1) (Go.Joins.cell_of_block hg 2) (Go.Joins.cell_of_block hg 3) (M1.out.up hb2) (HROW.out.up hbu).tmc hl1 (by rw [negL_len]; exact hl2) hbd1 hbd2.neg hd1 hd1' hd2 hd2').mono ?_
  rintro e u3 ⟨⟨V, he, hroot⟩, hc3⟩
  subst he
  obtain ⟨v3, rfl, hrow3⟩ := hroot
  have hb3 := hb2.trans (hc3.mono hb2.size)
  (try go_wp2_with fail)
  refine hK.out _ _ ⟨B0.out.up hb3, B1.out.up hb3⟩ (fun _ => ?_)
  clear hK K
  (try simp only [Act.put, List.setIfInBounds_toArray, List.set_cons_zero, List.set_cons_succ])
  obtain ⟨eA, capE, rfl, hcE, hmE, hfE⟩ := hrow3.form
  have HROW3 := Lib.hid hrow3
  have hr2 := B2.out.up hb3
  have c20 := RowV.c0 hr2
  have c21 := RowV.c1 hr2
  have z20 := RowV.z (i := 0) hr2
  have z21 := RowV.z (i := 1) hr2
  have bw := BW.out.trans (hb3.mono BW.out.size)
  have hu3 := hb3.size
  clear hrow3 hr2
  refine wpAnyH_ready (rs := [5]) (by kernel_rfl) (by simp) (AllReadyH.cons (o := ⟨none, _, _, _, _, _⟩) rfl (fun K hK => ?_) AllReadyH.nil)
  rw [if_pos (by rfl)]
  go_simp
  skip
  refine hK.out _ _ ⟨RowV.far (RowV.far (B0.out.up hb3) (by omega)) (by omega), RowV.far (RowV.far (B1.out.up hb3) (by omega)) (by omega)⟩ (fun _ => ?_)
  clear hK K
  (try simp only [Act.put, List.setIfInBounds_toArray, List.set_cons_zero, List.set_cons_succ])
  refine wpAnyH_done (by kernel_rfl) ?_ _
  refine NoPanic.normal ?_
  go_wp2
  refine bodyPost_ret (v := .agg #[.slice eA (scL d2 l1 ++ scL d1 (negL l2)).length capE, .int .i64 (d1 * d2)]) (results_one rfl rfl (load_root2 ?_ ?_)) rfl ⟨⟨_, rfl, _, rfl, RowT.low (B := (u1.alloc (.cells #[.slice A1 l1.length c1, .int .i64 d1, .slice bA (negL l2).length capA, .int .i64 d2] 113)).heap.size) (HROW3.out.keep fun k hk => ?_) ?_⟩, (bw.setCell (by show w.heap.size ≤ w.heap.size + 1 + 1; omega) _).setCell (by show w.heap.size ≤ w.heap.size + 1 + 1; omega) _⟩
  · rw [World.cell?_setCell_other _ _ _ _ (by simp), World.cell?_setCell_same _ _ _ c20]
    simp only [List.length_append]
  · exact World.cell?_setCell_same _ _ _ ((World.cell?_setCell_other _ _ _ _ (by simp)).trans c21)
  · have hk2 : k ≠ w.heap.size + 1 + 1 := by
      rcases hfE with ⟨rfl, -, -⟩ | ⟨g2, rfl, hg2, -, -⟩
      · cases hk
      · have e2 : g2 = k := Option.some.inj hk
        have := hb1.size
        rw [World.size_alloc] at hg2
        omega
    exact (setCell_heap hk2).trans (setCell_heap hk2)
  · have := hb1.size
    rw [World.size_alloc]
    omega
end Go.Proofs.YtmbcejldifobnaaDoor.Pc

namespace Go.Proofs.YtmbcejldifobnaaDoor
open Go.RowKit
theorem TmI.up {w w' : World} {v : Value} {l : List (Int × Int)} (h : TmI w w.heap.size v l) (hb : Below w.heap.size w w') : TmI w' w'.heap.size v l := by
  obtain ⟨A, cap, e, hc, hh⟩ := h.keep hb
  refine ⟨A, cap, e, hc, fun hne => ?_⟩
  obtain ⟨g, o, e2, hg, hx⟩ := hh hne
  exact ⟨g, o, e2, Nat.lt_of_lt_of_le hg hb.size, hx⟩
end Go.Proofs.YtmbcejldifobnaaDoor

namespace Go.Proofs.YtmbcejldifobnaaDoor
open Go.RowKit
theorem powerC0 (w : World) (B bp bd g cap : Nat) (l : List (Nat × Int)) (d : Int) (W : World) (h : PwBox w B bp bd g cap l d W) :
    Calls Tryd.prog 165 #[.int .i64 0, .pointer (some ⟨bp, 0, none⟩), .pointer (some ⟨bd, 0, none⟩)] W fun e W' => e = .returned (.int .i64 1) ∧ PwBox w B bp bd g cap l d W' := by
  have H := Lib.hid h
  clear h
  go_enter Tryd.func165, Tryd.ntmps165
  go_wp2
  go_ret
  exact ⟨rfl, H.out⟩
set_option maxRecDepth 100000 in
set_option maxHeartbeats 1000000 in
theorem powerC (w : World) (B bp bd g cap : Nat) (l : List (Nat × Int)) (d m : Int) (k : Nat) (W : World) (h : PwBox w B bp bd g cap l d W) (h1 : 1 ≤ m) (h2 : m ≤ 1000000000001) (hd1 : 1 ≤ d) (hd2 : d ≤ 1000000) (hs : SignOk (l ++ [(m.toNat, -d)]) k) :
    Calls Tryd.prog 165 #[.int .i64 m, .pointer (some ⟨bp, 0, none⟩), .pointer (some ⟨bd, 0, none⟩)] W fun e W' => e = .returned (.int .i64 (sgnP (l ++ [(m.toNat, -d)]))) ∧ PwBox w B bp bd g cap l d W' := by
  have c1 : W.cell? ⟨bp, 0, none⟩ = some (.slice (some ⟨g, 0, none⟩) l.length cap) := Go.Joins.cell_of_block h.box 0
  have c2 : W.cell? ⟨bd, 0, none⟩ = some (.int .i64 d) := Go.Joins.cell_of_block h.den 0
  have s1 : IntKind.i64.wrap (-d) = -d := IntWalk.i64_in _ (by omega)
  obtain ⟨N, rfl⟩ := Int.eq_ofNat_of_zero_le (show 0 ≤ m by omega)
  rw [Int.toNat_natCast] at hs ⊢
  have hm0 : ¬ (N : Int) = 0 := by omega
  obtain ⟨X, hX⟩ : ∃ X : Int, -d = X := ⟨_, rfl⟩
  rw [hX] at hs s1 ⊢
  have HSG := Lib.hid fun W' (h' : TmC W' W'.heap.size (.slice (some ⟨g, 0, none⟩) (l ++ [(N, X)]).length cap) (l ++ [(N, X)])) => sign_any _ _ k W' h' hs
  have H := Lib.hid h
  have hrm := h.room
  clear h hs
  have hlen : (l ++ [(N, X)]).length = l.length + 1 := by simp
  rw [hlen] at HSG
  have hown := H.out.row.up ((Below.refl W.heap.size W).alloc (Nat.le_refl _) (.cells #[.int .i64 (N : Int), .int .i64 X] 84))
  obtain ⟨i0, hi0, hz0, hz1, hz2⟩ := info_parts Tryd.infoT
  go_enter Tryd.func165, Tryd.ntmps165
  go_wp2_with (at_builtin; refine wpList_append_fits _ rfl (.tmp 7) (.tmp 12) 78 rfl B 84 i0 2 Tryd.underlying78 hi0 hz1 g l.length cap (encT l) rfl hown ⟨W.heap.size, 0, none⟩ 1 1 (encT [(N, X)]) rfl rfl (World.news_of_block (cs := #[.int .i64 (N : Int), .int .i64 X]) (t := 84) (fr := (0, 0)) (heap_alloc_new W _)) (one_encT _) (by omega) ?_; intro w1 hown1 hgr1)
  have hr1 : RowT w1 B (.slice (some ⟨g, 0, none⟩) (l ++ [(N, X)]).length cap) (l ++ [(N, X)]) := by
    unfold RowT
    rw [encT_append, hlen]
    exact hown1
  have ht1 := hr1.tmc
  rw [hlen] at ht1
  refine (HSG.out w1 ht1).mono ?_
  rintro e w2 ⟨he, hb2⟩
  subst he
  go_wp2
  go_ret
  refine ⟨rfl, PwBox.up ?_ hb2⟩
  have h := H.out
  have hg := hr1.lt g rfl
  have l1 : bp < W.heap.size := (Array.getElem?_eq_some_iff.1 h.box).1
  have l2 : bd < W.heap.size := (Array.getElem?_eq_some_iff.1 h.den).1
  have hA : Below W.heap.size W (W.alloc (.cells #[.int .i64 (N : Int), .int .i64 X] 84)) := (Below.refl W.heap.size W).alloc (Nat.le_refl _) _
  have hz := hA.size
  have ht := hr1.take l.length (by rw [hlen]; omega)
  rw [List.take_left'  rfl] at ht
  refine ⟨ht, h.room, ?_, ?_, h.ne1, h.ne2, (h.below.alloc h.hB _).grown hgr1 (Nat.le_trans h.hB hz) (fun k hk => by cases hk; exact hg.1), ?_⟩
  · exact (hgr1.block bp (by simp; omega) (fun e => h.ne1 (Option.some.inj e).symm)).trans ((hA.block _ l1).trans h.box)
  · exact (hgr1.block bd (by simp; omega) (fun e => h.ne2 (Option.some.inj e).symm)).trans ((hA.block _ l2).trans h.den)
  · exact Nat.le_trans (Nat.le_trans h.hB hz) hgr1.size
end Go.Proofs.YtmbcejldifobnaaDoor

namespace Go.Proofs.YtmbcejldifobnaaDoor
open Go.RowKit
theorem PwBox.add {w : World} {B bp bd g cap : Nat} {l r : List (Nat × Int)} {d : Int} {wr W1 w5 : World} (h : PwBox w B bp bd g cap l d wr) (hA : Below wr.heap.size wr W1)
    (hown : w5.ownsRow B 84 2 (.slice (some ⟨g, 0, none⟩) (l.length + r.length) cap) (l.length + r.length) (encT l ++ encT r)) (hgr : W1.grownBy w5 (some g)) (hroom : l.length + r.length < cap) (hne : bp ≠ bd) (hbp : B ≤ bp) :
    PwBox w B bp bd g cap (l ++ r) d (w5.setCell ⟨bp, 0, none⟩ (.slice (some ⟨g, 0, none⟩) (l.length + r.length) cap)) := by
  have hr1 : RowT w5 B (.slice (some ⟨g, 0, none⟩) (l ++ r).length cap) (l ++ r) := by
    unfold RowT
    rw [encT_append, List.length_append]
    exact hown
  have hg := hr1.lt g rfl
  have l1 : bp < wr.heap.size := (Array.getElem?_eq_some_iff.1 h.box).1
  have l2 : bd < wr.heap.size := (Array.getElem?_eq_some_iff.1 h.den).1
  have hz := hA.size
  have hbox : w5.heap[bp]? = _ := (hgr.block bp (by omega) (fun e => h.ne1 (Option.some.inj e).symm)).trans ((hA.block _ l1).trans h.box)
  have hden : w5.heap[bd]? = _ := (hgr.block bd (by omega) (fun e => h.ne2 (Option.some.inj e).symm)).trans ((hA.block _ l2).trans h.den)
  have hlen : (l ++ r).length = l.length + r.length := by simp
  have hb5 : Below B w w5 := (h.below.trans (hA.mono h.hB)).grown hgr (Nat.le_trans h.hB hz) (fun k hk => by cases hk; exact hg.1)
  refine ⟨hr1.keep fun k e => setCell_heap (by cases e; exact h.ne1), by rw [hlen]; exact hroom, ?_, (setCell_heap hne.symm).trans hden, h.ne1, h.ne2, hb5.setCell hbp _, ?_⟩
  · rw [hlen]; exact setCell_one hbox
  · have : (w5.setCell ⟨bp, 0, none⟩ (.slice (some ⟨g, 0, none⟩) (l.length + r.length) cap)).heap.size = w5.heap.size := by simp [World.setCell]
    rw [this]
    exact Nat.le_trans (Nat.le_trans h.hB hz) hgr.size
/-- What Power searches. -/
def PwF (l : List (Nat × Int)) (d : Int) (S : Nat) (m : Int) : Int := if m = 0 then 1 else sgnP (l ++ [(S, d)] ++ [(m.toNat, -d)])
set_option maxRecDepth 100000 in
set_option maxHeartbeats 2000000 in
theorem Power_any (A : Option Addr) (capv : Nat) (l : List (Nat × Int)) (d : Int) (S : Nat) (k : Nat) (w : World) (hv : TmC w w.heap.size (.slice A l.length capv) l) (hA : A = none → capv = 0) (hl : validL l) (hd1 : 1 ≤ d) (hd2 : d ≤ 1000000) (hS1 : 1 ≤ S) (hS2 : S ≤ 1000000000000)
    (hs : ∀ m : Int, 1 ≤ m → m ≤ 1000000000001 → SignOk (l ++ [(S, d)] ++ [(m.toNat, -d)]) k) :
    Calls Tryd.prog 129 #[.int .i64 (S : Int), .slice A l.length capv, .int .i64 d] w fun e w' => SrPost (PwF l d S) 0 e ∧ Below w.heap.size w w' := by
  have hex := fun W (h : TmI W W.heap.size (.slice A l.length capv) (intT l)) => examine_any (.slice A l.length capv) (intT l) W h (by simp [intT]; have := hl.1; omega)
  rw [hl.exam] at hex
  have hlen := hl.1
  have HEX := Lib.hid hex
  have HV := Lib.hid hv
  have HS := Lib.hid hs
  have HA := Lib.hid hA
  clear hex hl hs hv hA
  have hwd : wiB d 1 1000000 = true := by unfold wiB; rw [decide_eq_true hd1, decide_eq_true hd2]; rfl
  have hws : wiB (S : Int) 1 1000000000000 = true := by unfold wiB; rw [decide_eq_true (show (1 : Int) ≤ S by omega), decide_eq_true (show (S : Int) ≤ 1000000000000 by omega)]; rfl
  have HWD := Lib.hid hwd
  have HWS := Lib.hid hws
  clear hwd hws
  have hb0 : Below w.heap.size w (w.alloc (.cells #[.int .i64 d] 2)) := (Below.refl _ _).alloc (Nat.le_refl _) _
  have HB0 := Lib.hid hb0
  go_enter Tryd.func129, Tryd.ntmps129
  go_wp2_with fail
  refine (HEX.out _ (HV.out.up hb0).int).mono ?_
  rintro e w1 ⟨he, hb1⟩
  subst he
  have hd1' : w1.heap[w.heap.size]? = some (.cells #[.int .i64 d] 2 (0, 0)) := (hb1.block _ (by simp)).trans (heap_alloc_new w _)
  have c0 : w1.cell? ⟨w.heap.size, 0, none⟩ = some (.int .i64 d) := Go.Joins.cell_of_block hd1' 0
  have hB1 : Below w.heap.size w w1 := HB0.out.trans (hb1.mono (by simp))
  have HB1 := Lib.hid hB1
  have HD1 := Lib.hid hd1'
  clear hb0 hb1 hd1' hB1
  go_wp2_with fail
  refine (within_any d 1 1000000 _).mono ?_
  rintro e w2 ⟨he, hw2⟩
  subst he
  subst hw2
  rw [HWD.out]
  go_wp2_with fail
  refine (within_any (S : Int) 1 1000000000000 _).mono ?_
  rintro e w2 ⟨he, hw2⟩
  subst he
  subst hw2
  rw [HWS.out]
  obtain ⟨cs, hcs, hmk⟩ := mkT0 (l.length + 2) (by omega) w1
  rw [show ((l.length + 2 : Nat) : Int) = (l.length : Int) + 2 by omega] at hmk
  have HCS := Lib.hid hcs
  clear hcs
  have hp0 : PwBox w w.heap.size (w1.heap.size + 1) w.heap.size w1.heap.size (l.length + 2) [] d ((w1.alloc (.cells cs 84)).alloc (.cells #[.slice (some ⟨w1.heap.size, 0, none⟩) 0 (l.length + 2)] 78)) := by
    have hz := HB1.out.size
    have hA : Below w1.heap.size w1 ((w1.alloc (.cells cs 84)).alloc (.cells #[.slice (some ⟨w1.heap.size, 0, none⟩) 0 (l.length + 2)] 78)) := ((Below.refl w1.heap.size w1).alloc (Nat.le_refl _) _).alloc (by simp) _
    have hbx := heap_alloc_new (w1.alloc (.cells cs 84)) (.cells #[.slice (some ⟨w1.heap.size, 0, none⟩) 0 (l.length + 2)] 78)
    rw [World.size_alloc] at hbx
    have hlt : w.heap.size < w1.heap.size := (Array.getElem?_eq_some_iff.1 HD1.out).1
    refine ⟨?_, by simp, hbx, (hA.block _ hlt).trans HD1.out, by omega, by omega, HB1.out.trans (hA.mono hz), by simp; omega⟩
    have h0 := World.ownsRow_made (base := w.heap.size) (e := 84) (size := 2) w1 cs (l.length + 2) hz (by unfold maxLen; omega) HCS.out
    exact h0.alloc _
  have hlt0 : w.heap.size < w1.heap.size := (Array.getElem?_eq_some_iff.1 HD1.out).1
  have HP0 := Lib.hid hp0
  have hown0 := hp0.row
  unfold RowT at hown0
  have HOWN0 := Lib.hid hown0
  have hnews : ∀ ad, A = some ad → ∀ j u, (encT l)[j]? = some u → ((w1.alloc (.cells cs 84)).alloc (.cells #[.slice (some ⟨w1.heap.size, 0, none⟩) 0 (l.length + 2)] 78)).cell? (ad.add j) = some u := by
    intro ad had
    subst had
    obtain ⟨A', cap', e, -, hh⟩ := HV.out.keep hp0.below
    cases e
    by_cases h0 : l = []
    · subst h0; intro j u hu; simp [encT] at hu
    · obtain ⟨g, o2, e, -, hc2⟩ := hh h0
      cases e
      exact news_T hc2
  have HNW := Lib.hid hnews
  have hnone : A = none → l.length = 0 ∧ capv = 0 := fun h => by
    refine ⟨?_, HA.out h⟩
    subst h
    obtain ⟨A', cap', e, -, hh⟩ := HV.out
    cases e
    by_cases h0 : l = []
    · subst h0; rfl
    · obtain ⟨g, o2, e, -⟩ := hh h0
      cases e
  have HNN := Lib.hid hnone
  obtain ⟨i0, hi0, hz0, hz1, hz2⟩ := info_parts Tryd.infoT
  clear hp0 hown0 hnews hnone HB0 HD1 HEX HWD HWS HB1 HCS
  go_wp2_with (first
    | (at_builtin; refine wpList_append_fits_any _ rfl (.tmp 28) (.tmp 29) 78 rfl w.heap.size 84 i0 2 Tryd.underlying78 hi0 hz1 w1.heap.size 0 (l.length + 2) (encT []) rfl HOWN0.out A l.length capv (encT l) rfl (encT_len l) HNN.out HNW.out (one_encT l) (by omega) ?_; intro w5 hown5 hgr5; have hp1 := PwBox.add (r := l) HP0.out (Below.refl _ _) hown5 hgr5 (by simp) (by omega) (by have := HP0.out.hB; omega); have q0 : w5.heap[w1.heap.size + 1]? = _ := (hgr5.block (w1.heap.size + 1) (by simp) (fun e => absurd (Option.some.inj e) (by omega))).trans HP0.out.box; have q1 := Go.Joins.cell_of_block q0 0; have q2 : w5.frozen? ⟨w1.heap.size + 1, 0, none⟩ = false := (by unfold World.frozen?; rw [q0]; rfl); simp only [List.length_nil, Nat.zero_add, List.nil_append] at hp1 ⊢; have k0 := Go.Joins.cell_of_block hp1.box 0; have k1 := Go.Joins.cell_of_block hp1.den 0; have HP1 := Lib.hid hp1; clear q0 hp1)
    | (at_builtin; obtain ⟨W2, hW2⟩ : ∃ W2, W2 = w5.setCell ⟨w1.heap.size + 1, 0, none⟩ (.slice (some ⟨w1.heap.size, 0, none⟩) l.length (l.length + 2)) := ⟨_, rfl⟩; have hp2 := HP1.out; have hsz : w5.heap.size = W2.heap.size := (by rw [hW2, size_setCell']); rw [← hW2] at hp2 ⊢; rw [hsz]; have hownB := hp2.row.up (belA W2 (.cells #[.int .i64 (S : Int), .int .i64 d] 84)); unfold RowT at hownB; refine wpList_append_fits _ rfl (.tmp 31) (.tmp 35) 78 rfl w.heap.size 84 i0 2 Tryd.underlying78 hi0 hz1 w1.heap.size l.length (l.length + 2) (encT l) rfl hownB ⟨W2.heap.size, 0, none⟩ 1 1 (encT [(S, d)]) rfl rfl (World.news_of_block (cs := #[.int .i64 (S : Int), .int .i64 d]) (t := 84) (fr := (0, 0)) (heap_alloc_new W2 _)) (one_encT _) (by omega) ?_; intro w6 hown6 hgr6; have hp3 := PwBox.add (r := [(S, d)]) hp2 (belA W2 (.cells #[.int .i64 (S : Int), .int .i64 d] 84)) hown6 hgr6 (by simp) (by omega) (by have := HP0.out.hB; omega); have hbp : w1.heap.size + 1 < W2.heap.size := (Array.getElem?_eq_some_iff.1 hp2.box).1; have r0 : w6.heap[w1.heap.size + 1]? = _ := (hgr6.block (w1.heap.size + 1) (by simp; omega) (fun e => absurd (Option.some.inj e) (by omega))).trans (((belA W2 (.cells #[.int .i64 (S : Int), .int .i64 d] 84)).block _ hbp).trans hp2.box); have r1 := Go.Joins.cell_of_block r0 0; have r2 : w6.frozen? ⟨w1.heap.size + 1, 0, none⟩ = false := (by unfold World.frozen?; rw [r0]; rfl); have HP3 := Lib.hid hp3; clear hp2 hp3 r0 hW2))
  have hcl : ∀ (m : Int) (W : World), 0 ≤ m → m ≤ 1000000000001 → PwBox w w.heap.size (w1.heap.size + 1) w.heap.size w1.heap.size (l.length + 2) (l ++ [(S, d)]) d W → Calls Tryd.prog 165 #[.int .i64 m, .pointer (some ⟨w1.heap.size + 1, 0, none⟩), .pointer (some ⟨w.heap.size, 0, none⟩)] W fun e W' => e = .returned (.int .i64 (PwF l d S m)) ∧ PwBox w w.heap.size (w1.heap.size + 1) w.heap.size w1.heap.size (l.length + 2) (l ++ [(S, d)]) d W' := fun m W m1 m2 h => by
    by_cases h0 : m = 0
    · subst h0
      exact powerC0 _ _ _ _ _ _ _ _ _ h
    · have e : PwF l d S m = sgnP (l ++ [(S, d)] ++ [(m.toNat, -d)]) := by unfold PwF; rw [if_neg h0]
      rw [e]
      exact powerC _ _ _ _ _ _ _ _ m k W h (by omega) m2 hd1 hd2 (HS.out m (by omega) m2)
  have hsr := search_power (.pointer (some ⟨w1.heap.size + 1, 0, none⟩)) (.pointer (some ⟨w.heap.size, 0, none⟩)) (PwBox w w.heap.size (w1.heap.size + 1) w.heap.size w1.heap.size (l.length + 2) (l ++ [(S, d)]) d) (PwF l d S) 0 _ (by omega) (by omega) (fun W n h => h.drewN n) hcl HP3.out
  have HSR := Lib.hid hsr
  clear hsr hcl k0 k1 r1 r2 HP3 HP1 q1 q2 hown5 hown6 hgr5 hgr6 hownB
  refine HSR.out.mono ?_
  rintro e w7 ⟨hsp, hI⟩
  have HI := Lib.hid hI.below
  clear hI
  rcases hsp with ⟨hc, he⟩ | ⟨hc, m, m1, m2, m3, m4, he⟩
  · have HC := Lib.hid hc
    clear hc
    subst he
    go_wp2
    go_ret3
    exact ⟨.inl ⟨HC.out, rfl⟩, HI.out⟩
  · have HC := Lib.hid hc
    have H3 := Lib.hid m3
    have H4 := Lib.hid m4
    clear hc m3 m4
    subst he
    go_wp2
    go_ret3
    exact ⟨.inr ⟨HC.out, m, m1, m2, H3.out, H4.out, rfl⟩, HI.out⟩
end Go.Proofs.YtmbcejldifobnaaDoor

namespace Go.Proofs.YtmbcejldifobnaaDoor.Pc
open Go.RowKit Tp
theorem pow_ok {l : List (Nat × Int)} (h : validL l) {d : Int} {S : Nat} (hd1 : 1 ≤ d) (hd2 : d ≤ 1000000) (hS1 : 1 ≤ S) (hS2 : S ≤ 1000000000000) {m : Int} (h1 : 1 ≤ m) (h2 : m ≤ 1000000000001) : SignOk (l ++ [(S, d)] ++ [(m.toNat, -d)]) 34 := by
  obtain ⟨hl, hx⟩ := h
  have hall : ∀ x ∈ l ++ [(S, d)] ++ [(m.toNat, -d)], 1 ≤ x.1 ∧ x.1 ≤ 1000000000001 ∧ x.2.natAbs ≤ 1000000000 := fun x hm => by
    simp only [List.mem_append, List.mem_singleton] at hm
    rcases hm with (hm | rfl) | rfl
    · have := hx x hm; omega
    · simp only; omega
    · simp only; omega
  have hlen : (l ++ [(S, d)] ++ [(m.toNat, -d)]).length ≤ 18 := by simp; omega
  generalize l ++ [(S, d)] ++ [(m.toNat, -d)] = L at *
  obtain ⟨s1, s2⟩ := sums_le (N := 1000000000001) (e := 1000000000) (w := 39) (by decide) hall
  have h3 : nA L ≤ 18000000000 := Nat.le_trans s1 (Nat.le_trans (Nat.mul_le_mul_right _ hlen) (by decide))
  have h4 : wA L ≤ 702000000000 := Nat.le_trans s2 (Nat.le_trans (Nat.mul_le_mul_right _ hlen) (by decide))
  refine SignOk.of (fun x hm => ⟨(hall x hm).1, by have := (hall x hm).2.1; omega⟩) (by omega) (by omega) (by omega) (by omega) ?_
  have : (64 : Nat) * 2 ^ 34 - 2 = 1099511627774 := by decide
  omega
theorem floor_ok {l : List (Nat × Int)} (hl : l.length ≤ 16) (hx : ∀ x ∈ l, 1 ≤ x.1 ∧ x.1 ≤ 1000000000000 ∧ x.2.natAbs ≤ 200000) {d : Int} (hd1 : 1 ≤ d) (hd2 : d ≤ 100000) {m : Int} (h1 : -1000000000000 ≤ m) (h2 : m ≤ 1000000000001) : SignOk (scL 1200000 l ++ [(2, -(m * d))]) 42 := by
  have hall : ∀ x ∈ scL 1200000 l, 1 ≤ x.1 ∧ x.1 ≤ 1000000000000 ∧ x.2.natAbs ≤ 240000000000 := fun x hm => by
    obtain ⟨y, hy, rfl⟩ := List.mem_map.1 hm
    have := hx y hy
    simp only
    omega
  have hlen : (scL 1200000 l).length ≤ 16 := by rw [scL_len]; exact hl
  obtain ⟨s1, s2⟩ := sums_le (N := 1000000000000) (e := 240000000000) (w := 39) (by decide) hall
  have h3 : nA (scL 1200000 l) ≤ 3840000000000 := Nat.le_trans s1 (Nat.le_trans (Nat.mul_le_mul_right _ hlen) (by decide))
  have h4 : wA (scL 1200000 l) ≤ 149760000000000 := Nat.le_trans s2 (Nat.le_trans (Nat.mul_le_mul_right _ hlen) (by decide))
  have k1 := Int.mul_le_mul_of_nonneg_right h1 (show (0 : Int) ≤ d by omega)
  have k2 := Int.mul_le_mul_of_nonneg_right h2 (show (0 : Int) ≤ d by omega)
  have h5 : (-(m * d)).natAbs ≤ 100000000000100000 := by omega
  have hlog : Nat.log2 2 = 1 := by decide
  refine SignOk.snoc (fun x hm => ⟨(hall x hm).1, by have := (hall x hm).2.1; omega⟩) (by omega) (by omega) (by omega) (by rw [hlog]; omega) (by omega) (by omega) ?_
  have : (64 : Nat) * 2 ^ 42 - 2 = 281474976710654 := by decide
  omega
theorem szIv (a b : Int) : (Tryd.prog.info? 55).map (·.size) = some ([.int .i64 a, .int .i64 b] : List Value).length := by show _ = some 2; kernel_rfl
theorem load_iv {w : World} {g : Nat} {a b : Int} (h0 : w.cell? ⟨g, 0, none⟩ = some (.int .i64 a)) (h1 : w.cell? ⟨g, 1, none⟩ = some (.int .i64 b)) : (loadVar 55 ⟨g, 0, none⟩).run Tryd.prog w = .ok (.agg #[.int .i64 a, .int .i64 b]) w :=
  run_loadVar_mid w g 0 55 [.int .i64 a, .int .i64 b] _ (fun j u hu => by
    match j, hu with
    | 0, hu => cases hu; exact h0
    | 1, hu => cases hu; exact h1) Tryd.underlying55 rfl (szIv a b)
/-- The span of a root: the floor, and the floor of the same or one more. -/
def SpanIs (F : Int → Int) (m n : Int) : Prop := 0 ≤ m ∧ m ≤ 1000000000000 ∧ 0 ≤ F m ∧ F (m + 1) < 0 ∧ ((F m = 0 ∧ n = m) ∨ (F m ≠ 0 ∧ n = m + 1))
set_option maxRecDepth 100000 in
set_option maxHeartbeats 2000000 in
theorem span_any (A : Option Addr) (capv : Nat) (l : List (Nat × Int)) (d : Int) (S : Nat) (w : World) (hv : TmC w w.heap.size (.slice A l.length capv) l) (hA : A = none → capv = 0) (hl : validL l) (hd1 : 1 ≤ d) (hd2 : d ≤ 1000000) (hS1 : 1 ≤ S) (hS2 : S ≤ 1000000000000) (hno : PwF l d S 1000000000001 < 0) :
    Calls Tryd.prog 74 #[.int .i64 (S : Int), .int .i64 d, .slice A l.length capv] w fun e w' => (∃ m n, e = .returned (.agg #[.int .i64 m, .int .i64 n]) ∧ SpanIs (PwF l d S) m n) ∧ Below w.heap.size w w' := by
  have hpw := fun W (h : TmC W W.heap.size (.slice A l.length capv) l) => Power_any A capv l d S 34 W h hA hl hd1 hd2 hS1 hS2 (fun m h1 h2 => pow_ok hl hd1 hd2 hS1 hS2 h1 h2)
  have h00 : PwF l d S 0 = 1 := if_pos rfl
  have HPW := Lib.hid hpw
  have HV := Lib.hid hv
  have HNO := Lib.hid hno
  have H00 := Lib.hid h00
  have hb0 := belB w (.cells #[.int .i64 0, .int .i64 0] 55)
  have HB0 := Lib.hid hb0
  have hr0 := RowV.of_alloc w 55 [.int .i64 0, .int .i64 0]
  have HR0 := Lib.hid hr0
  clear hpw hv hno h00 hb0 hr0 hl hA
  generalize PwF l d S = F at *
  go_enter Tryd.func74, Tryd.ntmps74
  go_wp2_with fail
  refine (HPW.out _ (HV.out.up HB0.out)).mono ?_
  rintro e w1 ⟨hsr, hb1⟩
  have hr1 := HR0.out.up hb1
  have hbw := HB0.out.trans (hb1.mono HB0.out.size)
  have c0 := RowV.c0 hr1
  have c1 := RowV.c1 hr1
  have z0 := RowV.z (i := 0) hr1
  have z1 := RowV.z (i := 1) hr1
  have BW := Lib.hid hbw
  rcases hsr with ⟨hbad, -⟩ | ⟨-, m, hm0, hm1, hm2, hm3, he⟩
  · exfalso
    have h1 := HNO.out
    have h2 := H00.out
    omega
  · subst he
    have hm4 : IntKind.i64.wrap (m + 1) = m + 1 := IntWalk.i64_in _ (by omega)
    clear hr1 hbw hb1 HPW HV HNO H00
    by_cases hz : F m = 0
    · have hb : (F m == 0) = true := by simp [hz]
      rw [hb]
      clear hb
      go_wp2
      refine bodyPost_ret (v := .agg #[.int .i64 m, .int .i64 m]) (results_one rfl rfl (load_iv ?_ ?_)) rfl ⟨⟨m, m, rfl, hm0, hm1, hm2, hm3, .inl ⟨hz, rfl⟩⟩, (BW.out.setCell (by show w.heap.size ≤ w.heap.size; omega) _).setCell (by show w.heap.size ≤ w.heap.size; omega) _⟩
      · rw [World.cell?_setCell_other _ _ _ _ (by simp), World.cell?_setCell_same _ _ _ c0]
      · exact World.cell?_setCell_same _ _ _ ((World.cell?_setCell_other _ _ _ _ (by simp)).trans c1)
    · have hb : (F m == 0) = false := by simp [hz]
      rw [hb]
      clear hb
      go_wp2
      refine bodyPost_ret (v := .agg #[.int .i64 m, .int .i64 (m + 1)]) (results_one rfl rfl (load_iv ?_ ?_)) rfl ⟨⟨m, m + 1, rfl, hm0, hm1, hm2, hm3, .inr ⟨hz, rfl⟩⟩, (BW.out.setCell (by show w.heap.size ≤ w.heap.size; omega) _).setCell (by show w.heap.size ≤ w.heap.size; omega) _⟩
      · rw [World.cell?_setCell_other _ _ _ _ (by simp), World.cell?_setCell_same _ _ _ c0]
      · exact World.cell?_setCell_same _ _ _ ((World.cell?_setCell_other _ _ _ _ (by simp)).trans c1)
/-- The floor of millicents. -/
def CtF (l : List (Nat × Int)) (d : Int) (m : Int) : Int := sgnP (scL 1200000 l ++ [(2, -(m * d))])
set_option maxRecDepth 100000 in
set_option maxHeartbeats 2000000 in
theorem millicents_any (v : Value) (l : List (Nat × Int)) (d : Int) (w : World) (hv : TmC w w.heap.size v l) (hl : l.length ≤ 16) (hx : ∀ x ∈ l, 1 ≤ x.1 ∧ x.1 ≤ 1000000000000 ∧ x.2.natAbs ≤ 200000) (hd1 : 1 ≤ d) (hd2 : d ≤ 100000) :
    Calls Tryd.prog 70 #[.int .i64 d, v] w fun e w' => (∃ m, e = .returned (.int .i64 m) ∧ (((CtF l d (-1000000000000) < 0 ∨ 0 ≤ CtF l d 1000000000001) ∧ m = 0) ∨ (-1000000000000 ≤ m ∧ m ≤ 1000000000000 ∧ 0 ≤ CtF l d m ∧ CtF l d (m + 1) < 0))) ∧ Below w.heap.size w w' := by
  have hvl : validL l := ⟨hl, fun x hm => by have := hx x hm; omega⟩
  have hfl := fun W (h : TmC W W.heap.size v l) => Floor_any v l d 1200000 42 W h hvl hd1 (by omega) (by omega) (by omega) (fun m h1 h2 => floor_ok hl hx hd1 hd2 h1 h2)
  have HFL := Lib.hid hfl
  have HV := Lib.hid hv
  obtain ⟨A, cap, rfl, -, -⟩ := id hv
  clear hfl hv hx hvl
  go_enter Tryd.func70, Tryd.ntmps70
  go_wp2_with fail
  refine (HFL.out _ HV.out).mono ?_
  rintro e w1 ⟨hsr, hb1⟩
  rcases hsr with ⟨hbad, he⟩ | ⟨-, m, hm0, hm1, hm2, hm3, he⟩
  · subst he
    go_wp2
    go_ret
    exact ⟨⟨0, rfl, .inl ⟨hbad, rfl⟩⟩, hb1⟩
  · subst he
    go_wp2
    go_ret
    exact ⟨⟨m, rfl, .inr ⟨hm0, hm1, hm2, hm3⟩⟩, hb1⟩
end Go.Proofs.YtmbcejldifobnaaDoor.Pc
