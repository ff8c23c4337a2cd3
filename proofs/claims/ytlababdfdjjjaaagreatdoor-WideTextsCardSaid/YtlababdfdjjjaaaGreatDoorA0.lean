import Derived.Test.YtlababdfdjjjaaaGreatDoorT2
import Derived.Test.YtlababdfdjjjaaaGreatDoorN40
import Derived.Test.YtlababdfdjjjaaaGreatDoorRRA
namespace Go.Proofs.YtlababdfdjjjaaaGreatDoor
open Go.RowKit

/-! awake: what it computes. -/
theorem lit_new (w : World) (l : List Nat) (ho : okL l) (hl : l.length ≤ 1000) : Arg (w.alloc (.cells (l.map u32).toArray 64)) (.slice (some ⟨w.heap.size, 0, none⟩) l.length l.length) l := by
  have hrow : Row (w.alloc (.cells (l.map u32).toArray 64)) w.heap.size l := heap_alloc_new w _
  exact ⟨hrow.whole ho l.length (Nat.le_refl _), by omega⟩
theorem num_arg {W : World} {v : Value} {n : Nat} (h : Num W W.heap.size v n) (l : List Nat) (hl : dg n = l) (hk : l.length ≤ 1000) : Arg W v l := by
  subst hl
  exact ⟨h, by omega⟩
theorem arg_num {W : World} {v : Value} {l : List Nat} (h : Arg W v l) (n : Nat) (hl : l = dg n) : Num W W.heap.size v n := by
  subst hl
  exact h.1
theorem Arg.wroteQ {W : World} {v : Value} {l : List Nat} {g : Nat} (h : Arg W v l) (hq : QB W g false (.slice none 0 0) (.slice none 0 0)) (neg' : Bool) (vn' vd' : Value) : Arg (Go.Proofs.YtlababdfdjjjaaaGreatDoor.wroteQ W g neg' vn' vd') v l := by
  refine ⟨?_, h.2⟩
  have h1 := Lim.wroteQ h.1 hq neg' vn' vd'
  have h2 : (Go.Proofs.YtlababdfdjjjaaaGreatDoor.wroteQ W g neg' vn' vd').heap.size = W.heap.size := by simp [Go.Proofs.YtlababdfdjjjaaaGreatDoor.wroteQ, World.setCell]
  rw [h2]; exact h1
theorem QB.wroteOther {W : World} {g k : Nat} {neg neg' : Bool} {vn vd vn' vd' : Value} (h : QB W g neg vn vd) (hne : g ≠ k) : QB (wroteQ W k neg' vn' vd') g neg vn vd := by
  have e : W.heap[g]? = some (.cells #[.bool neg, vn, vd] 48 (0, 0)) := h
  show (wroteQ W k neg' vn' vd').heap[g]? = _
  unfold wroteQ
  rw [heap_other _ hne, heap_other _ hne, heap_other _ hne]; exact e
theorem dg_list {l : List Nat} (h : okL l) (h2 : l.getLast? ≠ some 0) {n : Nat} (hn : val l = n) : dg n = l := by
  subst hn
  exact dg_val ⟨h, h2⟩
theorem dg_limb {n : Nat} (h0 : n ≠ 0) (h : n < 4294967296) : dg n = [n] := dg_list (by intro x hx; simp at hx; rw [hx, LB_eq]; exact h) (by simp; exact h0) (by simp [val])

set_option maxRecDepth 100000 in
/-- A fraction of small numbers. -/
theorem quo_any (neg : Bool) (m n : Nat) (hm : m < 18446744073709551616) (hn : n < 18446744073709551616) (w : World) :
    Calls Tryz.prog 69 #[.bool neg, .int .u64 (m : Int), .int .u64 (n : Int)] w fun e w' => ∃ A l c B l' c', e = .returned (.agg #[.bool neg, .slice A l c, .slice B l' c']) ∧ Num w' w'.heap.size (.slice A l c) m ∧ Num w' w'.heap.size (.slice B l' c') n ∧ Below w.heap.size w w' := by
  have H1 := Lib.hid (fun W => rof_any m hm W)
  have H2 := Lib.hid (fun W => rof_any n hn W)
  have hq0 := QB.new w false (.slice none 0 0) (.slice none 0 0)
  have hb0 : Below w.heap.size w (w.alloc (.cells #[.bool false, .slice none 0 0, .slice none 0 0] 48)) := (Below.refl _ w).alloc (Nat.le_refl _) _
  have HQ0 := Lib.hid hq0
  have HB0 := Lib.hid hb0
  clear hq0 hb0 hm hn
  go_enter Tryz.func69, Tryz.ntmps69
  go_wp2_with fail
  refine (H1.out _).mono ?_
  rintro e w1 ⟨v1, he, hn1, hb1, -⟩
  subst he
  have hq1 := HQ0.out.below hb1 HQ0.out.lt
  have hb01 := HB0.out.trans (hb1.mono HB0.out.size)
  go_wp2_with fail
  refine (H2.out _).mono ?_
  rintro e w2 ⟨v2, he, hn2, hb2, -⟩
  subst he
  have hq2 := hq1.below hb2 hq1.lt
  have hb02 := hb01.trans (hb2.mono hb01.size)
  have hn1' := hn1.up hb2
  obtain ⟨A1, c1', rfl, -⟩ := hn1'.form
  obtain ⟨A2, c2', rfl, -⟩ := hn2.form
  have c0 := hq2.c0
  have c1 := hq2.c1
  have c2 := hq2.c2
  have f0 := hq2.fr 0
  have f1 := hq2.fr 1
  have f2 := hq2.fr 2
  have g1 := hq2.write neg (.slice A1 (dg m).length c1') (.slice A2 (dg n).length c2')
  have g2 := Lim.wroteQ hn1' hq2 neg (.slice A1 (dg m).length c1') (.slice A2 (dg n).length c2')
  have g3 := Lim.wroteQ hn2 hq2 neg (.slice A1 (dg m).length c1') (.slice A2 (dg n).length c2')
  have g4 := wroteQ_below hb02 (Nat.le_refl _) neg (.slice A1 (dg m).length c1') (.slice A2 (dg n).length c2')
  have hs : w2.heap.size ≤ (wroteQ w2 w.heap.size neg (.slice A1 (dg m).length c1') (.slice A2 (dg n).length c2')).heap.size := by simp [wroteQ, World.setCell]
  have G1 := Lib.hid g1
  have G2 := Lib.hid g2
  have G3 := Lib.hid g3
  have G4 := Lib.hid g4
  have HS := Lib.hid hs
  clear hn1 hn2 hn1' hq1 hq2 hb1 hb2 hb01 hb02 g1 g2 g3 g4 hs
  generalize (dg m).length = k1 at *
  generalize (dg n).length = k2 at *
  go_wp2_with fail
  change bodyPost _ _ _ Exit.ret _ (wroteQ w2 w.heap.size neg (.slice A1 k1 c1') (.slice A2 k2 c2'))
  generalize wroteQ w2 w.heap.size neg (.slice A1 k1 c1') (.slice A2 k2 c2') = W9 at *
  have k0 := G1.out.c0
  have k1' := G1.out.c1
  have k2' := G1.out.c2
  refine bodyPost_ret (v := .agg #[.bool neg, .slice A1 k1 c1', .slice A2 k2 c2']) ?_ rfl ⟨_, _, _, _, _, _, rfl, Lim.more G2.out HS.out, Lim.more G3.out HS.out, G4.out⟩
  simp [results, Tryz.results69, k0, k1', k2', go_sem]

/-! The values. -/
theorem dec_step (n a b : Nat) (h : n = 10 * a + b) (hb : b < 10) (ha : 0 < a) : Lib.decDigits n = Lib.decDigits a ++ [UInt8.ofNat (48 + b)] := by
  rw [dec_big (by omega), show n / 10 = a by omega, show n % 10 = b by omega]
theorem exam_nil {ls : List (List Nat)} (h : ∀ l ∈ ls, l.length ≤ 512 ∧ l.getLast? ≠ some 0) : examW ls = 0 := by
  rw [examW_short (fun k l hk hl => by have := (h l (List.mem_of_getElem? hl)).1; omega), if_neg]
  intro h2
  rw [List.any_eq_true] at h2
  obtain ⟨l, hl, hd⟩ := h2
  exact (h l hl).2 (of_decide_eq_true hd)
theorem val_one (n : Nat) : val [n] = n := by simp [val]
theorem text_val : textW [0, 1] = ([52, 50, 57, 52, 57, 54, 55, 50, 57, 54], 0) := by
  have h0 : examW [[0, 1]] = 0 := exam_nil (by simp)
  have h1 : val [0, 1] = 4294967296 := by simp [val, LB]
  unfold textW
  rw [if_pos h0, h1, dec_step 4294967296 429496729 6 rfl (by omega) (by omega), dec_step 429496729 42949672 9 rfl (by omega) (by omega), dec_step 42949672 4294967 2 rfl (by omega) (by omega), dec_step 4294967 429496 7 rfl (by omega) (by omega), dec_step 429496 42949 6 rfl (by omega) (by omega), dec_step 42949 4294 9 rfl (by omega) (by omega), dec_step 4294 429 4 rfl (by omega) (by omega), dec_step 429 42 9 rfl (by omega) (by omega), dec_step 42 4 2 rfl (by omega) (by omega), dec_small (by omega)]
  rfl
theorem div_val : divW [0, 0, 1] [4294967295] = (4294967297, 1, 0) := by
  have h0 : examW [[0, 0, 1], [4294967295]] = 0 := exam_nil (by simp)
  have h1 : val [0, 0, 1] = 18446744073709551616 := by simp [val, LB]
  unfold divW
  rw [if_pos h0, h1, val_one]
  rfl
theorem gcd_val : gcdW [462] [1071] = (21, 0) := by
  have h0 : examW [[462], [1071]] = 0 := exam_nil (by simp)
  unfold gcdW
  rw [if_pos h0, val_one, val_one]
  rfl
theorem proper_val {neg : Bool} {m n : Nat} (hm : m ≠ 0) (hn : n ≠ 0) (hg : Nat.gcd m n = 1) : (Fr.mk neg [m] [n]).proper = true := by
  have h0 : examW [[m], [n]] = 0 := exam_nil (by simp [hm, hn])
  unfold Fr.proper properW
  simp [h0, val_one, hn, hm, hg]
theorem ex_val {neg : Bool} {m n : Nat} (hm : m ≠ 0) (hn : n ≠ 0) : (Fr.mk neg [m] [n]).ex = 0 := exam_nil (by simp [hm, hn])
theorem examQ_nil {fs : List Fr} (h : ∀ f ∈ fs, f.ex = 0 ∧ f.proper = true) : examQW fs = 0 := by
  rw [examQW_short (fun k f hk hf => by have := (h f (List.mem_of_getElem? hf)).1; omega), if_neg]
  intro h2
  rw [List.any_eq_true] at h2
  obtain ⟨f, hf, hd⟩ := h2
  rw [(h f hf).2] at hd
  cases hd
theorem low_val (neg : Bool) (m n p q : Nat) (hp : m / Nat.gcd m n = p) (hq : n / Nat.gcd m n = q) (hp0 : p ≠ 0) (hq0 : q ≠ 0) (hp1 : p < 4294967296) (hq1 : q < 4294967296) : lowW neg m n = (neg, p, q, 0) := by
  unfold lowW
  rw [hp, hq, dg_limb hp0 hp1, dg_limb hq0 hq1, if_neg (by simp)]
  simp [hp0]
theorem qadd_val : qaddW ⟨false, [1], [6]⟩ ⟨true, [2], [3]⟩ = (true, 1, 2, 0) := by
  have h0 : examQW [⟨false, [1], [6]⟩, ⟨true, [2], [3]⟩] = 0 := examQ_nil (by
    intro f hf
    simp at hf
    rcases hf with rfl | rfl
    · exact ⟨ex_val (by omega) (by omega), proper_val (by omega) (by omega) rfl⟩
    · exact ⟨ex_val (by omega) (by omega), proper_val (by omega) (by omega) rfl⟩)
  unfold qaddW
  rw [if_pos h0]
  simp only [val_one]
  unfold fsumW
  exact low_val true 9 18 1 2 rfl rfl (by omega) (by omega) (by omega) (by omega)
theorem qfloor_val : qfloorW ⟨true, [1], [2]⟩ = (true, 1, 0) := by
  have h0 : examQW [⟨true, [1], [2]⟩] = 0 := examQ_nil (by
    intro f hf
    simp at hf
    subst hf
    exact ⟨ex_val (by omega) (by omega), proper_val (by omega) (by omega) rfl⟩)
  unfold qfloorW
  rw [if_pos h0]
  simp only [val_one]
  rfl
theorem qpow_val : qpowW ⟨true, [2], [3]⟩ (-3) = (true, 27, 8, 0) := by
  have h0 : examQW [⟨true, [2], [3]⟩] = 0 := examQ_nil (by
    intro f hf
    simp at hf
    subst hf
    exact ⟨ex_val (by omega) (by omega), proper_val (by omega) (by omega) rfl⟩)
  unfold qpowW
  rw [if_pos h0]
  simp only [val_one]
  rw [if_neg (by omega), if_pos (by omega)]
  unfold powPart
  rw [show ((- (-3 : Int)).toNat) = 3 from rfl, if_neg (by omega), show (3 : Nat) ^ 3 = 27 from rfl, show (2 : Nat) ^ 3 = 8 from rfl, dg_limb (by omega) (by omega), dg_limb (by omega) (by omega), if_neg (by simp)]
  rfl
theorem root_val : rootW [999] 3 = (9, 0) := by
  have h0 : examW [[999]] = 0 := exam_nil (by simp)
  have h1 := rootN_is (val [999]) (k := 3) (by omega)
  unfold rootW
  rw [if_pos h0, if_neg (by omega)]
  rw [val_one] at h1 ⊢
  have h2 : rootN 999 3 = 9 := by
    obtain ⟨g1, g2⟩ := h1
    generalize rootN 999 3 = r at *
    rcases Nat.lt_trichotomy r 9 with hl | hl | hl
    · have := Nat.pow_le_pow_left (show r + 1 ≤ 9 by omega) 3; omega
    · exact hl
    · have := Nat.pow_le_pow_left (show 10 ≤ r by omega) 3; omega
  show (rootN 999 3, (0 : Int)) = _
  rw [h2]
end Go.Proofs.YtlababdfdjjjaaaGreatDoor
