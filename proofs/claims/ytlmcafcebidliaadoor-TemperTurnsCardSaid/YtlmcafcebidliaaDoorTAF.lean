import Derived.Test.YtlmcafcebidliaaDoorTA19
import Derived.Test.YtlmcafcebidliaaDoorShelfK
import Derived.Test.YtlmcafcebidliaaDoorTPC
namespace Go.Proofs.YtlmcafcebidliaaDoor.Tp
open Go.RowKit

/-! Turn of a valid temperament. -/
theorem yieldsIf_build {P : Program} {ops : Array Oper} {S : World → Prop} {op : Oper} {a : Act} (hw : Region.wanted op (yielded ops a.tmps) = true) (t : TypeId) (parts : Array (Nat × Operand)) (ho : op.op = .build t parts) {C : Array Value}
    (LL : List (Nat × Value)) (he : (parts.map fun (i, x) => (i, a.eval x)).toList = LL) (hb : P.built t LL = some C) : YieldsIf P ops S op (.agg C) a :=
  .inl ⟨hw, fun w _ => by
    unfold execOp
    simp only [ho, Sem.run_bind, run_build w t _ C ((congrArg (P.built t) he).trans hb), Result.andThen_ok]
    rfl⟩
theorem clone_any (s : ByteArray) (w : World) (hs : s.size ≤ 281474976710656) :
    Calls Tryd.prog 32 #[.string s] w fun e w' => e = .returned (.string s) ∧ Below w.heap.size w w' := by
  go_enter Tryd.func32, Tryd.ntmps32
  go_wp2_with fail
  refine (Tryd.stringslite_Clone s _ hs).mono ?_
  rintro e w' ⟨rfl, hb⟩
  go_wp2_with fail
  go_ret
  exact ⟨rfl, hb⟩
def turS (T : Tm) (b : Nat) (P0 : List (Int × Int)) : Nat → List (Int × Int)
  | 0 => P0
  | n + 1 => (turS T b P0 n).set ((n + 7 * b) % 12) (psN T n)
theorem turS_len (T : Tm) (b : Nat) (P0 : List (Int × Int)) : ∀ n, (turS T b P0 n).length = P0.length
  | 0 => rfl
  | n + 1 => by show ((turS T b P0 n).set _ _).length = _; rw [List.length_set, turS_len T b P0 n]
theorem turS_at {T : Tm} {b p : Nat} {P0 : List (Int × Int)} (hl : P0.length = 12) (hp : p < 12) : ∀ {n : Nat}, n ≤ 12 → (turS T b P0 n)[p]? = if (p + 5 * b) % 12 < n then some (psN T ((p + 5 * b) % 12)) else P0[p]?
  | 0, _ => by rw [if_neg (by omega)]; rfl
  | n + 1, hn => by
    have ih := turS_at (T := T) (b := b) hl hp (n := n) (by omega)
    show ((turS T b P0 n).set ((n + 7 * b) % 12) (psN T n))[p]? = _
    by_cases e : p = (n + 7 * b) % 12
    · have e2 : (p + 5 * b) % 12 = n := by omega
      rw [e2, if_pos (by omega), ← e, List.getElem?_set_self (by rw [turS_len, hl]; exact hp)]
    · have e2 : (p + 5 * b) % 12 ≠ n := by omega
      rw [List.getElem?_set_ne (fun h => e h.symm), ih]
      by_cases h : (p + 5 * b) % 12 < n
      · rw [if_pos h, if_pos (by omega)]
      · rw [if_neg h, if_neg (by omega)]
def turnT (T : Tm) (b m : Nat) : Tm := ⟨T.nm, T.sy, (m : Int), turS T b (onesP 0) 12⟩
theorem turnT_len (T : Tm) (b m : Nat) : (turnT T b m).ps.length = 12 := by show (turS T b (onesP 0) 12).length = 12; rw [turS_len]; rfl
theorem tmV_set {T : Tm} {q : Nat} {n0 d0 : Int} (n d : Int) (h : T.ps[q]? = some (n0, d0)) : ((tmV T).set (3 + q * 2) (.int .i64 n)).set (3 + q * 2 + 1) (.int .i64 d) = tmV ⟨T.nm, T.sy, T.wo, T.ps.set q (n, d)⟩ := by
  have e : ∀ (a b c : Value) (L : List Value) (k : Nat) (v : Value), (a :: b :: c :: L).set (3 + k) v = a :: b :: c :: L.set k v := fun a b c L k v => by rw [show 3 + k = k + 1 + 1 + 1 by omega]; rfl
  unfold tmV
  rw [e, show 3 + q * 2 + 1 = 3 + (q * 2 + 1) by omega, e, fl2_set0 n h]
  have h2 : (T.ps.set q (n, d0))[q]? = some (n, d0) := List.getElem?_set_self (List.getElem?_eq_some_iff.1 h).1
  rw [fl2_set d h2, List.set_set]
theorem tmV_put (T : Tm) (h : T.ps.length = 12) : (tmV tm0).take 0 ++ tmV T ++ (tmV tm0).drop (0 + (tmV T).length) = tmV T := by
  rw [List.drop_eq_nil_of_le (by rw [tmV_len, tmV_len, h]; decide)]; simp
theorem nm_small {T : Tm} (h : chkT T = 0) : T.nm.size ≤ 16 := by
  have hf := (chk_ok h).2.1
  unfold formedT nameB' Wn.nameB at hf
  simp only [Bool.and_eq_true, decide_eq_true_eq] at hf
  have := hf.2.1.1.1.2
  show T.nm.data.size ≤ 16
  rw [← Array.length_toList]; exact this
def TuRel (w : World) (T : Tm) (b m gT : Nat) (iv : Value) (wr : World) : Prop :=
  ∃ i : Nat, i ≤ 12 ∧ iv = .int .i64 (i : Int) ∧ RowV wr (w.heap.size + 1) 26 (tmV tm0) ∧ RowV wr gT 26 (tmV ⟨T.nm, T.sy, (m : Int), turS T b (onesP 0) i⟩) ∧ Below w.heap.size w wr
set_option maxRecDepth 100000 in
set_option maxHeartbeats 4000000 in
theorem Turn_ok (T : Tm) (wn b : Nat) (w : World) (hl : T.ps.length = 12) (hs : T.nm.size ≤ maxLen) (hk : chkT T = 0) (hwn : T.wo = (wn : Int)) (hw12 : wn < 12) (hb12 : b < 12) : Calls Tryd.prog 11 #[.agg (tmV T).toArray, .int .i64 (b : Int)] w fun e w' => e = .returned (.tuple #[.agg (tmV (turnT T b ((wn + 7 * b) % 12))).toArray, .int .i64 0]) ∧ Below w.heap.size w w' := by
  obtain ⟨m, hm⟩ : ∃ m, m = (wn + 7 * b) % 12 := ⟨_, rfl⟩
  rw [← hm]
  have hmI : ((wn : Int) + 7 * (b : Int)) % 12 = (m : Int) := by omega
  have hmT : ((wn : Int) + 7 * (b : Int)).tmod 12 = (m : Int) := by rw [Int.tmod_eq_emod_of_nonneg (by omega)]; exact hmI
  have hsz2 : T.nm.size ≤ 281474976710656 := Nat.le_trans (nm_small hk) (by decide)
  have hz := zero26
  have hr0 := (RowV.of_alloc w 26 (tmV T)).alloc (.cells (tmV tm0).toArray 26)
  have hr1 : RowV ((w.alloc (.cells (tmV T).toArray 26)).alloc (.cells (tmV tm0).toArray 26)) (w.heap.size + 1) 26 (tmV tm0) := by
    have h := RowV.of_alloc (w.alloc (.cells (tmV T).toArray 26)) 26 (tmV tm0)
    rw [World.size_alloc] at h
    exact h
  have HR0 := Lib.hid hr0
  have HR1 := Lib.hid hr1
  have HB := Lib.hid ((belB w (.cells (tmV T).toArray 26)).alloc (by simp) (.cells (tmV tm0).toArray 26))
  have HI := Lib.hid (sz2 hl)
  have HI2 := Lib.hid (szT hl)
  have HX := Lib.hid (fun i p (h : T.ps[i]? = some p) W => idx2 hl h W)
  have HL := Lib.hid hl
  have hck := fun W => Check_any T W hl hs
  rw [hk] at hck
  have hcl := fun W => isClass_any (b : Int) W
  have e1 : clB (b : Int) = true := by unfold clB; rw [decide_eq_true (by omega), decide_eq_true (by omega)]; rfl
  rw [e1] at hcl
  have HCL := Lib.hid hcl
  have HCK := Lib.hid hck
  have hcs : ∀ W', RowV W' w.heap.size 26 (tmV T) → W'.cell? ⟨w.heap.size, 0, none⟩ = some (.string T.nm) ∧ W'.cell? ⟨w.heap.size, 1, none⟩ = some (.bool T.sy) ∧ W'.cell? ⟨w.heap.size, 2, none⟩ = some (.int .i64 (wn : Int)) := fun W' h => ⟨h.cell (i := 0) rfl, h.cell (i := 1) rfl, h.cell (i := 2) (by rw [← hwn]; rfl)⟩
  obtain ⟨TM, hTM⟩ : ∃ TM : Tm, TM = ⟨T.nm, T.sy, (m : Int), turS T b (onesP 0) 0⟩ := ⟨_, rfl⟩
  have HBT : Hid (Tryd.prog.built 26 [(0, .string T.nm), (1, .bool T.sy), (2, .int .i64 (m : Int))] = some (tmV TM).toArray) := Lib.hid (by rw [hTM]; kernel_rfl)
  have HTL : Hid (TM.ps.length = 12) := Lib.hid (by rw [hTM]; rfl)
  have HSZM := Lib.hid (szT (T := TM) (by rw [hTM]; rfl))
  have HCS := Lib.hid hcs
  have HTM := Lib.hid hTM
  have w1 : IntKind.i64.wrap (7 * (b : Int)) = 7 * (b : Int) := IntWalk.i64_in _ (by omega)
  have w2 : IntKind.i64.wrap ((wn : Int) + 7 * (b : Int)) = (wn : Int) + 7 * (b : Int) := IntWalk.i64_in _ (by omega)
  clear hl hs hk hwn hr0 hr1 hck hcl e1 hcs hm hTM
  go_enter Tryd.func11, Tryd.ntmps11
  go_wp2_with ((show wpList _ _ _ (⟨_, .load _ _, _, _, _, _⟩ :: _) _ _); refine wpList_load_mid rfl 26 _ rfl w.heap.size 0 rfl (tmV T) _ HR0.out.all Tryd.underlying26 rfl HI2.out ?_)
  refine (HCK.out _).mono ?_
  rintro e W ⟨he, hb1⟩
  subst he
  have A0 := Lib.hid (HR0.out.up (hb1.mono (by simp)))
  have A1 := Lib.hid (HR1.out.up (hb1.mono (by simp)))
  have AB := Lib.hid (HB.out.trans (hb1.mono (by simp; omega)))
  clear hb1 HR0 HR1 HB HCK
  go_wp2_with fail
  refine (HCL.out _).mono ?_
  rintro e W2 ⟨he, hw⟩
  subst he
  subst hw
  have CS0 := Lib.hid (fun w' (h : Below W.heap.size W w') => (HCS.out _ (A0.out.up h)).1)
  have CS1 := Lib.hid (fun w' (h : Below W.heap.size W w') => (HCS.out _ (A0.out.up h)).2.1)
  have CS2 := Lib.hid (fun w' (h : Below W.heap.size W w') => (HCS.out _ (A0.out.up h)).2.2)
  clear HCS HCL
  go_wp2_with fail
  refine wp_region_noPanic ?_
  have hb0 : Below W.heap.size W W.drew := (Below.refl _ _).drew
  refine wp_region_held_drew (S := fun w' => Below W.heap.size W w') (by kernel_rfl) hb0 (fun _ => ?_)
  refine wpAnyH_take (i := 0) (oi := ⟨some 20, _, _, _, _, _⟩) (v := ?_) rfl (by kernel_rfl) (by kernel_rfl) (by kernel_rfl) (fun _ _ _ h => h) (Or.inl ⟨by rfl, ?_⟩) hb0 ?_
  rotate_left
  · (intro w hSw; go_simp; (try (with_reducible rfl)))
  (try simp only [Act.put, List.setIfInBounds_toArray, List.set_cons_zero, List.set_cons_succ])
  refine wpAnyH_take (i := 1) (oi := ⟨some 21, _, _, _, _, _⟩) (v := .string T.nm) rfl (by kernel_rfl) (by kernel_rfl) (by kernel_rfl) (fun _ _ _ h => h) (Or.inl ⟨by rfl, fun w' hS => by have hc := CS0.out w' hS; go_simp; (try (with_reducible rfl))⟩) hb0 ?_
  (try simp only [Act.put, List.setIfInBounds_toArray, List.set_cons_zero, List.set_cons_succ])
  refine wpAnyH_take (i := 3) (oi := ⟨some 23, _, _, _, _, _⟩) (v := ?_) rfl (by kernel_rfl) (by kernel_rfl) (by kernel_rfl) (fun _ _ _ h => h) (Or.inl ⟨by rfl, ?_⟩) hb0 ?_
  rotate_left
  · (intro w hSw; go_simp; (try (with_reducible rfl)))
  (try simp only [Act.put, List.setIfInBounds_toArray, List.set_cons_zero, List.set_cons_succ])
  refine wpAnyH_take (i := 4) (oi := ⟨some 24, _, _, _, _, _⟩) (v := .bool T.sy) rfl (by kernel_rfl) (by kernel_rfl) (by kernel_rfl) (fun _ _ _ h => h) (Or.inl ⟨by rfl, fun w' hS => by have hc := CS1.out w' hS; go_simp; (try (with_reducible rfl))⟩) hb0 ?_
  (try simp only [Act.put, List.setIfInBounds_toArray, List.set_cons_zero, List.set_cons_succ])
  refine wpAnyH_take (i := 5) (oi := ⟨some 25, _, _, _, _, _⟩) (v := ?_) rfl (by kernel_rfl) (by kernel_rfl) (by kernel_rfl) (fun _ _ _ h => h) (Or.inl ⟨by rfl, ?_⟩) hb0 ?_
  rotate_left
  · (intro w hSw; go_simp; (try (with_reducible rfl)))
  (try simp only [Act.put, List.setIfInBounds_toArray, List.set_cons_zero, List.set_cons_succ])
  refine wpAnyH_take (i := 6) (oi := ⟨some 26, _, _, _, _, _⟩) (v := .int .i64 (wn : Int)) rfl (by kernel_rfl) (by kernel_rfl) (by kernel_rfl) (fun _ _ _ h => h) (Or.inl ⟨by rfl, fun w' hS => by have hc := CS2.out w' hS; go_simp; (try (with_reducible rfl))⟩) hb0 ?_
  (try simp only [Act.put, List.setIfInBounds_toArray, List.set_cons_zero, List.set_cons_succ])
  refine wpAnyH_take (i := 7) (oi := ⟨some 27, _, _, _, _, _⟩) (v := ?_) rfl (by kernel_rfl) (by kernel_rfl) (by kernel_rfl) (fun _ _ _ h => h) (Or.inl ⟨by rfl, ?_⟩) hb0 ?_
  rotate_left
  · (intro w hSw; go_simp; (try (with_reducible rfl)))
  (try simp only [Act.put, List.setIfInBounds_toArray, List.set_cons_zero, List.set_cons_succ])
  refine wpAnyH_take (i := 8) (oi := ⟨some 28, _, _, _, _, _⟩) (v := ?_) rfl (by kernel_rfl) (by kernel_rfl) (by kernel_rfl) (fun _ _ _ h => h) (Or.inl ⟨by rfl, ?_⟩) hb0 ?_
  rotate_left
  · (intro w hSw; go_simp; (try (with_reducible rfl)))
  (try simp only [Act.put, List.setIfInBounds_toArray, List.set_cons_zero, List.set_cons_succ])
  refine wpAnyH_take (i := 9) (oi := ⟨some 29, _, _, _, _, _⟩) (v := ?_) rfl (by kernel_rfl) (by kernel_rfl) (by kernel_rfl) (fun _ _ _ h => h) (Or.inl ⟨by rfl, ?_⟩) hb0 ?_
  rotate_left
  · (intro w hSw; go_simp; (try (with_reducible rfl)))
  (try simp only [Act.put, List.setIfInBounds_toArray, List.set_cons_zero, List.set_cons_succ])
  refine wpAnyH_take (i := 10) (oi := ⟨some 30, _, _, _, _, _⟩) (v := ?_) rfl (by kernel_rfl) (by kernel_rfl) (by kernel_rfl) (fun _ _ _ h => h) (Or.inl ⟨by rfl, ?_⟩) hb0 ?_
  rotate_left
  · (intro w hSw; go_simp; (try (with_reducible rfl)))
  (try simp only [Act.put, List.setIfInBounds_toArray, List.set_cons_zero, List.set_cons_succ])
  refine wpAnyH_ready (rs := [2, 12]) (by kernel_rfl) (by simp) (AllReadyH.cons (o := ⟨some 22, _, _, _, _, _⟩) rfl (fun K hK => ?_) (AllReadyH.cons (o := ⟨some 7, _, _, _, _, _⟩) rfl (fun K hK => ?_) AllReadyH.nil))
  · rw [if_pos (by rfl)]
    go_simp
    refine (clone_any T.nm _ hsz2).mono ?_
    rintro e u1 ⟨he, hc1⟩
    subst he
    have hb1 := hb0.trans (hc1.mono hb0.size)
    have hc1k := hc1; clear hc1
    (try go_wp2_with fail)
    refine hK.out _ _ hb1 (fun _ => ?_)
    clear hK K
    (try simp only [Act.put, List.setIfInBounds_toArray, List.set_cons_zero, List.set_cons_succ])
    refine wpAnyH_take (i := 11) (oi := ⟨some 31, _, _, _, _, _⟩) (v := .agg (tmV TM).toArray) rfl (by kernel_rfl) (by kernel_rfl) (by kernel_rfl) (fun _ _ _ h => h) (yieldsIf_build (by rfl) 26 _ rfl [(0, .string T.nm), (1, .bool T.sy), (2, .int .i64 (m : Int))] (by rw [List.map_toArray]; rfl) HBT.out) hb1 ?_
    (try simp only [Act.put, List.setIfInBounds_toArray, List.set_cons_zero, List.set_cons_succ])
    refine wpAnyH_ready (rs := [12]) (by kernel_rfl) (by simp) (AllReadyH.cons (o := ⟨some 7, _, _, _, _, _⟩) rfl (fun K hK => ?_) AllReadyH.nil)
    rw [if_pos (by rfl)]
    go_simp
    (try go_wp2_with fail)
    have hb2 := hb1.alloc hb1.size (.cells (tmV tm0).toArray 26)
    have hg2 : RowV (u1.alloc (.cells (tmV tm0).toArray 26)) u1.heap.size 26 (tmV tm0) := RowV.of_alloc u1 26 (tmV tm0)
    have hge : W.heap.size ≤ u1.heap.size := hb1.size
    refine hK.out _ _ hb2 (fun _ => ?_)
    clear hK K
    (try simp only [Act.put, List.setIfInBounds_toArray, List.set_cons_zero, List.set_cons_succ])
    refine wpAnyH_ready (rs := [13]) (by kernel_rfl) (by simp) (AllReadyH.cons (o := ⟨none, _, _, _, _, _⟩) rfl (fun K hK => ?_) AllReadyH.nil)
    rw [if_pos (by rfl)]
    have hgl := hg2
    have hth := hgl.there (o := 0) (n := (tmV TM).toArray.size) (by rw [List.size_toArray, tmV_len, tmV_len, HTL.out]; decide)
    refine wp_store_mid 26 _ _ rfl u1.heap.size 0 (tmV TM).toArray rfl rfl hth HSZM.out (oneT TM) ?_
    have hbf := below_setCells (g := u1.heap.size) (tmV TM) 0 _ hb2 hge
    refine hK.out _ _ hbf (fun _ => ?_)
    clear hK K
    simp only [Act.put]
    refine wpAnyH_done (by kernel_rfl) ?_ _
    refine NoPanic.normal ?_
    have hdd := hgl.setCells (tmV TM) 0 _ _ (by rw [tmV_len, tmV_len, HTL.out]; decide)
    rw [tmV_put TM HTL.out] at hdd
    clear hgl hth
    have q0 := A0.out.up hbf
    have q1 := A1.out.up hbf
    have qb := AB.out.trans (hbf.mono AB.out.size)
    have hg1 : w.heap.size + 1 < u1.heap.size := Nat.lt_of_lt_of_le A1.out.lt hge
    clear hbf hge A0 A1 AB
    generalize u1.heap.size = gT at *
    have QT := Lib.hid hdd
    have Q0 := Lib.hid q0
    have Q1 := Lib.hid q1
    have QB := Lib.hid qb
    clear hdd q0 q1 qb
    clear hb0 hb1 hb2 hc1k CS0 CS1 CS2
    generalize ((u1.alloc (.cells (tmV tm0).toArray 26)).setCells gT 0 (tmV TM)) = WF at *
    go_wp2_with ((show wpList _ _ _ (⟨_, .load _ _, _, _, _, _⟩ :: _) _ _); refine wpList_load_mid rfl 24 _ rfl w.heap.size 3 rfl (fl2 T.ps) _ Q0.out.parts Tryd.underlying24 rfl HI.out ?_)
    go_loopw [34] (fun iv wr => TuRel w T b m gT iv wr) (fun iv _ => 12 - (intOf iv).toNat)
    case atStart => exact ⟨0, Nat.zero_le _, rfl, Q1.out, by have h := QT.out; rw [HTM.out] at h; exact h, QB.out⟩
    case round =>
      clear Q0 Q1 QT QB
      obtain ⟨i, hi, rfl, h1, h2, hb⟩ := hrel
      have H1 := Lib.hid h1
      have H2 := Lib.hid h2
      have HB := Lib.hid hb
      clear h1 h2 hb
      by_cases hil : i < 12
      · obtain ⟨⟨n, d⟩, hn⟩ : ∃ p, T.ps[i]? = some p := ⟨T.ps[i]'(by have := HL.out; omega), List.getElem?_eq_getElem _⟩
        have hpn := psN_at hn
        have hix := fun W => HX.out i (n, d) hn W
        have hilI : (i : Int) < 12 := by omega
        obtain ⟨q, hq⟩ : ∃ q, q = (i + 7 * b) % 12 := ⟨_, rfl⟩
        have hqI : ((i : Int) + 7 * (b : Int)) % 12 = (q : Int) := by omega
        have hqT : ((i : Int) + 7 * (b : Int)).tmod 12 = (q : Int) := by rw [Int.tmod_eq_emod_of_nonneg (by omega)]; exact hqI
        have hq12 : (q : Int) < 12 := by omega
        have hszr := HB.out.size
        have h2lt := H2.out.lt
        obtain ⟨⟨n0, d0⟩, hp⟩ : ∃ p, (turS T b (onesP 0) i)[q]? = some p := ⟨(turS T b (onesP 0) i)[q]'(by rw [turS_len]; show q < 12; omega), List.getElem?_eq_getElem _⟩
        have ha2 := H2.out
        obtain ⟨c3, c4⟩ := part_cells (T := ⟨T.nm, T.sy, (m : Int), turS T b (onesP 0) i⟩) ha2 hp
        have e : wr.heap[gT]? = some (.cells (tmV ⟨T.nm, T.sy, (m : Int), turS T b (onesP 0) i⟩).toArray 26 (0, 0)) := ha2
        have z3 : wr.frozen? ⟨gT, 3 + q * 2, none⟩ = false := by unfold World.frozen?; rw [e]; rfl
        have z4 : wr.frozen? ⟨gT, 3 + q * 2 + 1, none⟩ = false := by unfold World.frozen?; rw [e]; rfl
        have HPN := Lib.hid hpn
        have HQ := Lib.hid hq
        have HPP := Lib.hid hp
        clear hn hpn hq hp e ha2
        simp only at hix
        go_wp2
        refine ⟨⟨i + 1, by omega, by go_num, ?_, ?_, ((HB.out.setCell (by show w.heap.size ≤ gT; omega) _).setCell (by show w.heap.size ≤ gT; omega) _).alloc (by simp only [World.size_setCell]; exact HB.out.size) _⟩, by simp [intOf]; omega⟩
        · exact RowV.alloc (show RowV _ _ _ _ from (setCell_heap (Nat.ne_of_lt hg1)).trans ((setCell_heap (Nat.ne_of_lt hg1)).trans H1.out)) _
        · have h := ((H2.out.setCell (3 + q * 2) (.int .i64 n)).setCell (3 + q * 2 + 1) (.int .i64 d)).alloc (.cells #[.int .i64 n, .int .i64 d] 23)
          rw [tmV_set (T := ⟨T.nm, T.sy, (m : Int), turS T b (onesP 0) i⟩) n d HPP.out] at h
          show RowV _ gT 26 (tmV ⟨T.nm, T.sy, (m : Int), (turS T b (onesP 0) i).set ((i + 7 * b) % 12) (psN T i)⟩)
          rw [← HQ.out, HPN.out]
          exact h
      · obtain rfl : i = 12 := by omega
        have hth : wr.there (w.heap.size + 1) 0 27 := H1.out.there (by rw [tmV_len]; exact Nat.le_refl _)
        have hr4 := H1.out.setCells (tmV (turnT T b m)) 0 _ _ (by rw [tmV_len, tmV_len, turnT_len]; decide)
        rw [tmV_put _ (turnT_len T b m)] at hr4
        have h2a : wr.rangeAt gT 0 (tmV (turnT T b m)) := H2.out.all
        have HTH := Lib.hid hth
        have HR4 := Lib.hid hr4
        have H2A := Lib.hid h2a
        have HSZ := Lib.hid (szT (T := turnT T b m) (turnT_len T b m))
        have hth' : wr.there (w.heap.size + 1) 0 (tmV (turnT T b m)).toArray.size := by
          have e : (tmV (turnT T b m)).toArray.size = 27 := by rw [List.size_toArray, tmV_len, turnT_len]
          rw [e]; exact HTH.out
        have HTH2 := Lib.hid hth'
        clear hth hr4 h2a hth'
        go_wp2_with (first | ((show wpList _ _ _ (⟨_, .load _ _, _, _, _, _⟩ :: _) _ _); refine wpList_load_mid rfl 26 _ rfl gT 0 rfl (tmV (turnT T b m)) _ H2A.out Tryd.underlying26 rfl HSZ.out ?_) | ((show wpList _ _ _ (⟨_, .store _ _ _, _, _, _, _⟩ :: _) _ _); refine wpList_store_mid rfl 26 _ _ rfl (w.heap.size + 1) 0 (tmV (turnT T b m)).toArray rfl rfl HTH2.out HSZ.out (oneT _) ?_))
        exact bodyPost_ret (v := .tuple #[.agg (tmV (turnT T b m)).toArray, .int .i64 0]) (results_cell_tmp (a := 4) (b := 5) rfl rfl (run_loadVar_mid _ _ 0 _ (tmV (turnT T b m)) _ HR4.out.all Tryd.underlying26 rfl HSZ.out)) rfl ⟨rfl, below_setCells _ _ _ HB.out (by omega)⟩
  · rw [if_pos (by rfl)]
    go_simp
    (try go_wp2_with fail)
    have hb1 := hb0.alloc hb0.size (.cells (tmV tm0).toArray 26)
    have hg1 : RowV (W.drew.alloc (.cells (tmV tm0).toArray 26)) W.heap.size 26 (tmV tm0) := RowV.of_alloc W.drew 26 (tmV tm0)
    have hge : W.heap.size ≤ W.heap.size := hb0.size
    refine hK.out _ _ hb1 (fun _ => ?_)
    clear hK K
    (try simp only [Act.put, List.setIfInBounds_toArray, List.set_cons_zero, List.set_cons_succ])
    refine wpAnyH_ready (rs := [2]) (by kernel_rfl) (by simp) (AllReadyH.cons (o := ⟨some 22, _, _, _, _, _⟩) rfl (fun K hK => ?_) AllReadyH.nil)
    rw [if_pos (by rfl)]
    go_simp
    refine (clone_any T.nm _ hsz2).mono ?_
    rintro e u2 ⟨he, hc2⟩
    subst he
    have hb2 := hb1.trans (hc2.mono hb1.size)
    have hc2k := hc2; clear hc2
    (try go_wp2_with fail)
    refine hK.out _ _ hb2 (fun _ => ?_)
    clear hK K
    (try simp only [Act.put, List.setIfInBounds_toArray, List.set_cons_zero, List.set_cons_succ])
    refine wpAnyH_take (i := 11) (oi := ⟨some 31, _, _, _, _, _⟩) (v := .agg (tmV TM).toArray) rfl (by kernel_rfl) (by kernel_rfl) (by kernel_rfl) (fun _ _ _ h => h) (yieldsIf_build (by rfl) 26 _ rfl [(0, .string T.nm), (1, .bool T.sy), (2, .int .i64 (m : Int))] (by rw [List.map_toArray]; rfl) HBT.out) hb2 ?_
    (try simp only [Act.put, List.setIfInBounds_toArray, List.set_cons_zero, List.set_cons_succ])
    refine wpAnyH_ready (rs := [13]) (by kernel_rfl) (by simp) (AllReadyH.cons (o := ⟨none, _, _, _, _, _⟩) rfl (fun K hK => ?_) AllReadyH.nil)
    rw [if_pos (by rfl)]
    have hgl := hg1.up (hc2k)
    have hth := hgl.there (o := 0) (n := (tmV TM).toArray.size) (by rw [List.size_toArray, tmV_len, tmV_len, HTL.out]; decide)
    refine wp_store_mid 26 _ _ rfl W.heap.size 0 (tmV TM).toArray rfl rfl hth HSZM.out (oneT TM) ?_
    have hbf := below_setCells (g := W.heap.size) (tmV TM) 0 _ hb2 hge
    refine hK.out _ _ hbf (fun _ => ?_)
    clear hK K
    simp only [Act.put]
    refine wpAnyH_done (by kernel_rfl) ?_ _
    refine NoPanic.normal ?_
    have hdd := hgl.setCells (tmV TM) 0 _ _ (by rw [tmV_len, tmV_len, HTL.out]; decide)
    rw [tmV_put TM HTL.out] at hdd
    clear hgl hth
    have q0 := A0.out.up hbf
    have q1 := A1.out.up hbf
    have qb := AB.out.trans (hbf.mono AB.out.size)
    have hg1 : w.heap.size + 1 < W.heap.size := Nat.lt_of_lt_of_le A1.out.lt hge
    clear hbf hge A0 A1 AB
    generalize W.heap.size = gT at *
    have QT := Lib.hid hdd
    have Q0 := Lib.hid q0
    have Q1 := Lib.hid q1
    have QB := Lib.hid qb
    clear hdd q0 q1 qb
    clear hb0 hb1 hb2 hc2k CS0 CS1 CS2
    generalize (u2.setCells gT 0 (tmV TM)) = WF at *
    go_wp2_with ((show wpList _ _ _ (⟨_, .load _ _, _, _, _, _⟩ :: _) _ _); refine wpList_load_mid rfl 24 _ rfl w.heap.size 3 rfl (fl2 T.ps) _ Q0.out.parts Tryd.underlying24 rfl HI.out ?_)
    go_loopw [34] (fun iv wr => TuRel w T b m gT iv wr) (fun iv _ => 12 - (intOf iv).toNat)
    case atStart => exact ⟨0, Nat.zero_le _, rfl, Q1.out, by have h := QT.out; rw [HTM.out] at h; exact h, QB.out⟩
    case round =>
      clear Q0 Q1 QT QB
      obtain ⟨i, hi, rfl, h1, h2, hb⟩ := hrel
      have H1 := Lib.hid h1
      have H2 := Lib.hid h2
      have HB := Lib.hid hb
      clear h1 h2 hb
      by_cases hil : i < 12
      · obtain ⟨⟨n, d⟩, hn⟩ : ∃ p, T.ps[i]? = some p := ⟨T.ps[i]'(by have := HL.out; omega), List.getElem?_eq_getElem _⟩
        have hpn := psN_at hn
        have hix := fun W => HX.out i (n, d) hn W
        have hilI : (i : Int) < 12 := by omega
        obtain ⟨q, hq⟩ : ∃ q, q = (i + 7 * b) % 12 := ⟨_, rfl⟩
        have hqI : ((i : Int) + 7 * (b : Int)) % 12 = (q : Int) := by omega
        have hqT : ((i : Int) + 7 * (b : Int)).tmod 12 = (q : Int) := by rw [Int.tmod_eq_emod_of_nonneg (by omega)]; exact hqI
        have hq12 : (q : Int) < 12 := by omega
        have hszr := HB.out.size
        have h2lt := H2.out.lt
        obtain ⟨⟨n0, d0⟩, hp⟩ : ∃ p, (turS T b (onesP 0) i)[q]? = some p := ⟨(turS T b (onesP 0) i)[q]'(by rw [turS_len]; show q < 12; omega), List.getElem?_eq_getElem _⟩
        have ha2 := H2.out
        obtain ⟨c3, c4⟩ := part_cells (T := ⟨T.nm, T.sy, (m : Int), turS T b (onesP 0) i⟩) ha2 hp
        have e : wr.heap[gT]? = some (.cells (tmV ⟨T.nm, T.sy, (m : Int), turS T b (onesP 0) i⟩).toArray 26 (0, 0)) := ha2
        have z3 : wr.frozen? ⟨gT, 3 + q * 2, none⟩ = false := by unfold World.frozen?; rw [e]; rfl
        have z4 : wr.frozen? ⟨gT, 3 + q * 2 + 1, none⟩ = false := by unfold World.frozen?; rw [e]; rfl
        have HPN := Lib.hid hpn
        have HQ := Lib.hid hq
        have HPP := Lib.hid hp
        clear hn hpn hq hp e ha2
        simp only at hix
        go_wp2
        refine ⟨⟨i + 1, by omega, by go_num, ?_, ?_, ((HB.out.setCell (by show w.heap.size ≤ gT; omega) _).setCell (by show w.heap.size ≤ gT; omega) _).alloc (by simp only [World.size_setCell]; exact HB.out.size) _⟩, by simp [intOf]; omega⟩
        · exact RowV.alloc (show RowV _ _ _ _ from (setCell_heap (Nat.ne_of_lt hg1)).trans ((setCell_heap (Nat.ne_of_lt hg1)).trans H1.out)) _
        · have h := ((H2.out.setCell (3 + q * 2) (.int .i64 n)).setCell (3 + q * 2 + 1) (.int .i64 d)).alloc (.cells #[.int .i64 n, .int .i64 d] 23)
          rw [tmV_set (T := ⟨T.nm, T.sy, (m : Int), turS T b (onesP 0) i⟩) n d HPP.out] at h
          show RowV _ gT 26 (tmV ⟨T.nm, T.sy, (m : Int), (turS T b (onesP 0) i).set ((i + 7 * b) % 12) (psN T i)⟩)
          rw [← HQ.out, HPN.out]
          exact h
      · obtain rfl : i = 12 := by omega
        have hth : wr.there (w.heap.size + 1) 0 27 := H1.out.there (by rw [tmV_len]; exact Nat.le_refl _)
        have hr4 := H1.out.setCells (tmV (turnT T b m)) 0 _ _ (by rw [tmV_len, tmV_len, turnT_len]; decide)
        rw [tmV_put _ (turnT_len T b m)] at hr4
        have h2a : wr.rangeAt gT 0 (tmV (turnT T b m)) := H2.out.all
        have HTH := Lib.hid hth
        have HR4 := Lib.hid hr4
        have H2A := Lib.hid h2a
        have HSZ := Lib.hid (szT (T := turnT T b m) (turnT_len T b m))
        have hth' : wr.there (w.heap.size + 1) 0 (tmV (turnT T b m)).toArray.size := by
          have e : (tmV (turnT T b m)).toArray.size = 27 := by rw [List.size_toArray, tmV_len, turnT_len]
          rw [e]; exact HTH.out
        have HTH2 := Lib.hid hth'
        clear hth hr4 h2a hth'
        go_wp2_with (first | ((show wpList _ _ _ (⟨_, .load _ _, _, _, _, _⟩ :: _) _ _); refine wpList_load_mid rfl 26 _ rfl gT 0 rfl (tmV (turnT T b m)) _ H2A.out Tryd.underlying26 rfl HSZ.out ?_) | ((show wpList _ _ _ (⟨_, .store _ _ _, _, _, _, _⟩ :: _) _ _); refine wpList_store_mid rfl 26 _ _ rfl (w.heap.size + 1) 0 (tmV (turnT T b m)).toArray rfl rfl HTH2.out HSZ.out (oneT _) ?_))
        exact bodyPost_ret (v := .tuple #[.agg (tmV (turnT T b m)).toArray, .int .i64 0]) (results_cell_tmp (a := 4) (b := 5) rfl rfl (run_loadVar_mid _ _ 0 _ (tmV (turnT T b m)) _ HR4.out.all Tryd.underlying26 rfl HSZ.out)) rfl ⟨rfl, below_setCells _ _ _ HB.out (by omega)⟩
end Go.Proofs.YtlmcafcebidliaaDoor.Tp
namespace Go.Proofs.YtlmcafcebidliaaDoor.Tp
open Go.RowKit

/-! A temperament turned: its parts, its check, its intervals. -/
theorem turn_at {T : Tm} {b m p : Nat} (hp : p < 12) : (turnT T b m).ps[p]? = some (psN T ((p + 5 * b) % 12)) := by
  have h := turS_at (T := T) (b := b) (P0 := onesP 0) (p := p) rfl hp (n := 12) (Nat.le_refl _)
  rw [if_pos (Nat.mod_lt _ (by omega))] at h
  exact h
theorem turn_psN {T : Tm} {b m p : Nat} (hp : p < 12) : psN (turnT T b m) p = psN T ((p + 5 * b) % 12) := psN_at (turn_at hp)
theorem psN_get {T : Tm} {p : Nat} (hl : T.ps.length = 12) (hp : p < 12) : T.ps[p]? = some (psN T p) := by
  obtain ⟨x, hx⟩ : ∃ x, T.ps[p]? = some x := ⟨T.ps[p]'(by omega), List.getElem?_eq_getElem _⟩
  rw [hx, psN_at hx]
theorem Tm.eq {X Y : Tm} (h1 : X.nm = Y.nm) (h2 : X.sy = Y.sy) (h3 : X.wo = Y.wo) (h4 : X.ps = Y.ps) : X = Y := by
  cases X; cases Y; simp only at h1 h2 h3 h4; subst h1 h2 h3 h4; rfl
theorem turn_back {T : Tm} {wn b : Nat} (hl : T.ps.length = 12) (hwn : T.wo = (wn : Int)) (hw : wn < 12) (hb : b < 12) :
    turnT (turnT T b ((wn + 7 * b) % 12)) ((12 - b) % 12) (((wn + 7 * b) % 12 + 7 * ((12 - b) % 12)) % 12) = T := by
  refine Tm.eq rfl rfl ?_ ?_
  · show (((((wn + 7 * b) % 12 + 7 * ((12 - b) % 12)) % 12 : Nat)) : Int) = T.wo
    rw [hwn]
    omega
  · apply List.ext_getElem?
    intro p
    by_cases hp : p < 12
    · rw [turn_at hp, turn_psN (Nat.mod_lt _ (by omega)), show ((p + 5 * ((12 - b) % 12)) % 12 + 5 * b) % 12 = p by omega, psN_get hl hp]
    · rw [List.getElem?_eq_none (by rw [turnT_len]; omega), List.getElem?_eq_none (by omega)]
theorem turn_mem {T : Tm} {b m : Nat} {x : Int × Int} (hl : T.ps.length = 12) (h : x ∈ (turnT T b m).ps) : x ∈ T.ps := by
  obtain ⟨p, hp⟩ := List.mem_iff_getElem?.1 h
  have hp12 : p < 12 := by have := (List.getElem?_eq_some_iff.1 hp).1; rw [turnT_len] at this; exact this
  rw [turn_at hp12] at hp
  have := psN_get hl (Nat.mod_lt (p + 5 * b) (show 0 < 12 by omega))
  rw [hp] at this
  exact List.mem_of_getElem? this
theorem lc_of {M : Nat} : ∀ (ps : List (Int × Int)) (m : Nat), m ∣ M → (∀ p ∈ ps, p.2.natAbs ∣ M) → ps.foldl (fun m p => Nat.lcm m p.2.natAbs) m ∣ M
  | [], _, h, _ => h
  | p :: r, m, h, hp => lc_of r _ (Nat.lcm_dvd h (hp p (by simp))) fun x hx => hp x (by simp [hx])
theorem woP_psN {T : Tm} {n : Nat} (hl : T.ps.length = 12) (h : T.wo = (n : Int)) (hn : n < 12) : woP T = psN T n := by
  unfold woP
  rw [h, Int.toNat_natCast, List.getD_eq_getElem?_getD, psN_get hl hn]
  rfl
theorem chk_turn {T : Tm} {wn b m : Nat} (hl : T.ps.length = 12) (h : chkT T = 0) (hwn : T.wo = (wn : Int)) (hm : m = (wn + 7 * b) % 12) (hw : wn < 12) : chkT (turnT T b m) = 0 := by
  obtain ⟨h1, h2, h3⟩ := chk_ok h
  unfold fitsT at h1
  simp only [Bool.and_eq_true, decide_eq_true_eq] at h1
  obtain ⟨h4, h5, h6⟩ := h1
  have f1 : fitsT (turnT T b m) = true := by
    unfold fitsT
    simp only [Bool.and_eq_true, decide_eq_true_eq]
    refine ⟨List.all_eq_true.2 fun x hx => List.all_eq_true.1 h4 x (turn_mem hl hx), ?_, ?_⟩
    · show (0 : Int) ≤ (m : Int); omega
    · show (m : Int) < 12; omega
  unfold formedT at h2
  simp only [Bool.and_eq_true] at h2
  obtain ⟨g1, g2, g3⟩ := h2
  have hwo : woP (turnT T b m) = woP T := by
    rw [woP_psN (turnT_len T b m) (n := m) rfl (by omega), woP_psN hl hwn hw, turn_psN (by omega), show (m + 5 * b) % 12 = wn by omega]
  have f2 : formedT (turnT T b m) = true := by
    unfold formedT
    simp only [Bool.and_eq_true]
    exact ⟨List.all_eq_true.2 fun x hx => List.all_eq_true.1 g1 x (turn_mem hl hx), g2, by rw [hwo]; exact g3⟩
  unfold agreeT at h3
  simp only [decide_eq_true_eq] at h3
  have hpos : 0 < lcL T.ps := lc_pos T.ps 1 (by omega) fun p hp => (pOk_iff.1 (List.all_eq_true.1 h4 p hp)).1.1
  have hd : lcL (turnT T b m).ps ∣ lcL T.ps := lc_of _ _ (Nat.one_dvd _) fun p hp => by
    obtain ⟨i, hi⟩ := List.mem_iff_getElem?.1 (turn_mem hl hp)
    exact lc_dvd hi
  have f3 : agreeT (turnT T b m) = true := by
    unfold agreeT
    simp only [decide_eq_true_eq]
    exact Nat.le_trans (Nat.le_of_dvd hpos hd) h3
  unfold chkT
  rw [if_pos f1, if_pos f2, if_pos f3]
theorem turn_qN {T : Tm} {D : Int} {b m p : Nat} (hp : p < 12) : qN (turnT T b m) D p = qN T D ((p + 5 * b) % 12) := by
  unfold qN; rw [turn_psN hp]
theorem turn_fN {T : Tm} {D : Int} {b m p : Nat} (hp : p < 12) : fN (turnT T b m) D p = fN T D ((p + 5 * b) % 12) := by
  unfold fN; rw [turn_qN hp]; rfl
theorem Vd.turn {T : Tm} {D : Int} {wn b m : Nat} (h : Vd T D wn) (hm : m = (wn + 7 * b) % 12) : Vd (turnT T b m) D m where
  wo := rfl
  w := by omega
  d1 := h.d1
  d2 := h.d2
  ps := fun i hi => by rw [turn_psN hi]; exact h.ps _ (Nat.mod_lt _ (by omega))
  wz := by have := h.w; rw [turn_qN (by omega), show (m + 5 * b) % 12 = wn by omega]; exact h.wz
theorem V6.add_cancel {u v w : V6} (h : u.add w = v.add w) : u = v := by
  have e : ∀ x : V6, x = (x.add w).add (V6.scl (-1) w) := fun x => by unfold V6.add V6.scl; apply V6.eq <;> simp only <;> grind
  rw [e u, h, ← e v]
theorem rot_lo {G G' : Nat → V6} {r i : Nat} (h : ∀ i, i < 12 → G' i = G ((i + r) % 12)) (hi : i + r ≤ 12) : (PS G' i).add (PS G r) = PS G (i + r) := by
  have e : PS G' i = PS (fun j => G (r + j)) i := PS_congr fun j hj => by rw [h j (by omega), show (j + r) % 12 = r + j by omega]
  rw [e, V6.add_comm, ← PS_add, Nat.add_comm]
theorem rot_hi {G G' : Nat → V6} {r i : Nat} (h : ∀ i, i < 12 → G' i = G ((i + r) % 12)) (hr : r ≤ 12) (hi : 12 ≤ i + r) (hi2 : i ≤ 12) : (PS G' i).add (PS G r) = (PS G (i + r - 12)).add (PS G 12) := by
  have h1 := PS_add G' (12 - r) (i - (12 - r))
  rw [show 12 - r + (i - (12 - r)) = i by omega] at h1
  have e : PS (fun j => G' (12 - r + j)) (i - (12 - r)) = PS G (i + r - 12) := by
    rw [show i - (12 - r) = i + r - 12 by omega]
    exact PS_congr fun j hj => by rw [h _ (by omega), show (12 - r + j + r) % 12 = j by omega]
  have h2 := rot_lo h (i := 12 - r) (by omega)
  rw [show 12 - r + r = 12 by omega] at h2
  rw [h1, e, ← h2]
  unfold V6.add; apply V6.eq <;> simp only <;> grind
theorem turn_sum {G G' : Nat → V6} {r : Nat} (h : ∀ i, i < 12 → G' i = G ((i + r) % 12)) (hr : r ≤ 12) : PS G' 12 = PS G 12 := by
  have h1 := rot_hi h hr (i := 12) (by omega) (by omega)
  rw [show 12 + r - 12 = r by omega, V6.add_comm (PS G r)] at h1
  exact V6.add_cancel h1
theorem turn_FF {T : Tm} {D : Int} {wn b m r p : Nat} (hw : wn < 12) (hm : m = (wn + 7 * b) % 12) (hr : r = 5 * b % 12) (hp : p < 12) : FF D (fN (turnT T b m) D) m p = FF D (fN T D) wn ((p + r) % 12) := by
  have hf : ∀ i, i < 12 → fN (turnT T b m) D i = fN T D ((i + r) % 12) := fun i hi => by
    rw [turn_fN hi, show (i + 5 * b) % 12 = (i + r) % 12 by omega]
  by_cases e : p = m
  · subst e
    rw [FF_wf, show (p + r) % 12 = wn by omega, FF_wf]
    have h1 := LS_high (D := D) (F := fN (turnT T b p) D) (wf := p) (n := 12) (by omega)
    have h2 := LS_high (D := D) (F := fN T D) (wf := wn) (n := 12) (by omega)
    rw [turn_sum hf (by omega), hf p (by omega), show (p + r) % 12 = wn by omega] at h1
    exact V6.add_cancel (h1.trans h2.symm)
  · rw [FF_ne e, FF_ne (by omega), hf p hp]
theorem df_turn {T : Tm} {D : Int} {wn b m r i j : Nat} (hw : wn < 12) (hm : m = (wn + 7 * b) % 12) (hr : r = 5 * b % 12) (hi : i < 12) (hj : j < 12) :
    ∃ t : Int, dfV D (fN (turnT T b m) D) m i j = (dfV D (fN T D) wn ((i + r) % 12) ((j + r) % 12)).two (-(t * D)) := by
  have hF : ∀ i, i < 12 → FF D (fN (turnT T b m) D) m i = FF D (fN T D) wn ((i + r) % 12) := fun i hi => turn_FF hw hm hr hi
  have hS := FF_sum (D := D) (F := fN T D) hw
  have key : ∀ i, i < 12 → ∃ e : Int, (PS (FF D (fN (turnT T b m) D) m) i).add (PS (FF D (fN T D) wn) r) = (PS (FF D (fN T D) wn) ((i + r) % 12)).two (e * D) := fun i hi => by
    by_cases h : i + r < 12
    · refine ⟨0, ?_⟩
      rw [rot_lo hF (by omega), show (i + r) % 12 = i + r by omega, Int.zero_mul, V6.two_zero]
    · refine ⟨7, ?_⟩
      rw [rot_hi hF (by omega) (by omega) (by omega), hS, show (i + r) % 12 = i + r - 12 by omega]
      unfold V6.add V6.two octV; apply V6.eq <;> simp only <;> grind
  obtain ⟨x, hx⟩ := key i hi
  obtain ⟨y, hy⟩ := key j hj
  refine ⟨x - y, ?_⟩
  unfold dfV
  generalize PS (FF D (fN (turnT T b m) D) m) i = A at *
  generalize PS (FF D (fN (turnT T b m) D) m) j = B at *
  generalize PS (FF D (fN T D) wn) r = R at *
  generalize PS (FF D (fN T D) wn) ((i + r) % 12) = A2 at *
  generalize PS (FF D (fN T D) wn) ((j + r) % 12) = B2 at *
  have ea : A = (A2.two (x * D)).add (V6.scl (-1) R) := V6.add_cancel (w := R) (hx.trans (by unfold V6.add V6.scl; apply V6.eq <;> simp only <;> grind))
  have eb : B = (B2.two (y * D)).add (V6.scl (-1) R) := V6.add_cancel (w := R) (hy.trans (by unfold V6.add V6.scl; apply V6.eq <;> simp only <;> grind))
  rw [ea, eb]
  unfold V6.add V6.two V6.scl; apply V6.eq <;> simp only <;> grind
theorem bet_turn {T : Tm} {D : Int} {wn b m r i j : Nat} {x y : Rt} (hD : 0 < D) (hw : wn < 12) (hm : m = (wn + 7 * b) % 12) (hr : r = 5 * b % 12) (hi : i < 12) (hj : j < 12)
    (hx : BetIs D (fN T D) wn ((i + r) % 12) ((j + r) % 12) x) (hy : BetIs D (fN (turnT T b m) D) m i j y) : x = y := by
  obtain ⟨k, h1, -, -, rfl⟩ := hx
  obtain ⟨l, h2, -, -, rfl⟩ := hy
  obtain ⟨t, ht⟩ := df_turn (T := T) (D := D) hw hm hr hi hj
  rw [ht] at h2 ⊢
  have e := FlIs.unique hD h1 (FlIs.shift.1 h2)
  rw [V6.two_two, e]
  congr 2
  grind
end Go.Proofs.YtlmcafcebidliaaDoor.Tp
