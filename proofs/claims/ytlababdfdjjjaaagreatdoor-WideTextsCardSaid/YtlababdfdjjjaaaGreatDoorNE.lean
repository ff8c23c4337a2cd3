import Derived.Test.YtlababdfdjjjaaaGreatDoorN14
namespace Go.Proofs.YtlababdfdjjjaaaGreatDoor
open Go.RowKit

set_option maxRecDepth 100000 in
set_option maxHeartbeats 2000000 in
theorem of_any (n : Nat) (hn : n < 18446744073709551616) (w : World) : Calls Tryz.prog 21 #[.int .u64 (n : Int)] w (NumPost w n) := by
  obtain ⟨lo, hi, e1, e2, e3, e4, e5⟩ : ∃ lo hi : Nat, (n : Int) % 4294967296 = (lo : Int) ∧ (n : Int) / 4294967296 % 4294967296 = (hi : Int) ∧ lo < 4294967296 ∧ hi < 4294967296 ∧ n = lo + LB * hi :=
    ⟨n % 4294967296, n / 4294967296, by omega, by omega, by omega, by omega, by rw [LB_eq]; omega⟩
  have hrow : Row (w.alloc (.cells #[.int .u32 (lo : Int), .int .u32 (hi : Int)] 64)) w.heap.size [lo, hi] := heap_alloc_new w _
  have hb : Below w.heap.size w (w.alloc (.cells #[.int .u32 (lo : Int), .int .u32 (hi : Int)] 64)) := (Below.refl _ _).alloc (Nat.le_refl _) _
  have hlim := hrow.whole (by intro x hx; simp at hx; rcases hx with rfl | rfl <;> (rw [LB_eq]; assumption)) 2 (by simp)
  have htr := trim_any _ _ _ hlim (by simp)
  have hv : val [lo, hi] = n := by simp only [val, Nat.mul_zero, Nat.add_zero]; exact e5.symm
  rw [hv] at htr
  have HTR := Lib.hid htr
  have E1 := Lib.hid e1
  have E2 := Lib.hid e2
  have hn0 : (0 : Int) ≤ (n : Int) := Int.natCast_nonneg _
  clear htr hlim hrow e1 e2 e5 hn hv
  go_enter Tryz.func21, Tryz.ntmps21
  go_wp2_with (rw [E1.out, E2.out]; go_at_call 75; refine HTR.out.mono ?_; rintro e w3 ⟨v', rfl, hnum, rfl⟩)
  go_ret
  exact ⟨_, rfl, hnum, hb⟩
end Go.Proofs.YtlababdfdjjjaaaGreatDoor
namespace Go.Proofs.YtlababdfdjjjaaaGreatDoor
open Go.RowKit

/-- What a division leaves. -/
def DivPost (w : World) (m n : Nat) (e : Ending) (w' : World) : Prop :=
  ∃ q r, e = .returned (.tuple #[q, r]) ∧ Num w' w'.heap.size q (m / n) ∧ Num w' w'.heap.size r (m % n) ∧ Below w.heap.size w w'

set_option maxRecDepth 100000 in
set_option maxHeartbeats 2000000 in
theorem divide_less (va vb : Value) (m n : Nat) (w : World) (ha : Num w w.heap.size va m) (hb : Num w w.heap.size vb n) (hla : (dg m).length ≤ 100000000) (hlt : m < n) :
    Calls Tryz.prog 98 #[va, vb] w (DivPost w m n) := by
  have hc := compare_any va vb m n w ha hb hla
  rw [cmpI_lt hlt] at hc
  have hcl : ∀ w1, Drawn w w1 → Calls Tryz.prog 127 #[va] w1 fun e w' => ∃ v, e = .returned v ∧ Num w' w'.heap.size v m ∧ Below w.heap.size w w' := by
    intro w1 hd
    obtain ⟨q, rfl⟩ := hd
    refine (clone_any va (dg m) (w.drewN q) (Lim.up ha (below_drewN w q)) (by omega)).mono ?_
    rintro e w' ⟨rfl, hr, hbw⟩
    exact ⟨_, rfl, hr.whole (ok_dg m) _ (Nat.le_refl _), (below_drewN w q).trans hbw⟩
  obtain ⟨A, capa, rfl, -⟩ := ha.form
  obtain ⟨B, capb, rfl, -⟩ := hb.form
  have hq : m / n = 0 := Nat.div_eq_of_lt hlt
  have hr : m % n = m := Nat.mod_eq_of_lt hlt
  unfold DivPost
  rw [hq, hr]
  have HC := Lib.hid hc
  have HCL := Lib.hid hcl
  clear ha hb hc hcl hq hr hlt hla
  generalize (dg m).length = la at *
  generalize (dg n).length = lb at *
  go_enter Tryz.func98, Tryz.ntmps98
  go_wp2_with fail
  refine HC.out.mono ?_
  rintro e w1 ⟨rfl, hd⟩
  go_wp2_with fail
  refine (HCL.out _ hd).mono ?_
  rintro e w2 ⟨v, he, hn, hb⟩
  subst he
  go_wp2_with fail
  go_ret2
  exact ⟨.slice none 0 0, v, rfl, Num.zero _ _, hn, hb⟩

set_option maxRecDepth 100000 in
set_option maxHeartbeats 2000000 in
theorem divide_one (va vb : Value) (m n : Nat) (w : World) (ha : Num w w.heap.size va m) (hb : Num w w.heap.size vb n) (hla : (dg m).length ≤ 100000000) (hle : n ≤ m) (h1 : (dg n).length = 1) :
    Calls Tryz.prog 98 #[va, vb] w (DivPost w m n) := by
  have hc := compare_any va vb m n w ha hb hla
  obtain ⟨c, hcc, hc0⟩ : ∃ c : Int, cmpI m n = c ∧ 0 ≤ c := by
    rcases Nat.lt_or_ge n m with h | h
    · exact ⟨1, cmpI_gt h, by omega⟩
    · exact ⟨0, cmpI_eq (by omega), by omega⟩
  rw [hcc] at hc
  have hn0 : 0 < n := by
    rcases Nat.eq_zero_or_pos n with h | h
    · rw [h, dg_zero] at h1; cases h1
    · exact h
  have hnB : n < LB := by have := dg_le.1 (Nat.le_of_eq h1); rwa [Nat.pow_one] at this
  have hx : (dg n)[0]? = some n := by
    rw [dg_pos (by omega), Nat.mod_eq_of_lt hnB]; rfl
  have hlm : ∀ w1, Drawn w w1 → Calls Tryz.prog 78 #[va, .int .u32 (n : Int)] w1 fun e w' => ∃ v', e = .returned (.tuple #[v', .int .u32 ((m % n : Nat) : Int)]) ∧ Num w' w'.heap.size v' (m / n) ∧ Below w.heap.size w w' := by
    intro w1 hd
    obtain ⟨q, rfl⟩ := hd
    refine (limb_any va m n _ (Lim.up ha (below_drewN w q)) hla hn0 hnB).mono ?_
    rintro e w' ⟨v, rfl, h2, h3⟩
    exact ⟨v, rfl, h2, (below_drewN w q).trans h3⟩
  have hrB : m % n < 4294967296 := by have := Nat.mod_lt m hn0; rw [LB_eq] at hnB; omega
  have hof := of_any (m % n) (by omega)
  obtain ⟨A, capa, rfl, -⟩ := ha.form
  obtain ⟨Bb, capb, rfl, -⟩ := hb.form
  have hbl : Lim w w.heap.size (.slice Bb (dg n).length capb) (dg n) := hb
  obtain ⟨gb, ob, rfl, hg, c0⟩ := hbl.cell hx
  have hcell : ∀ w1, Drawn w w1 → w1.cell? ⟨gb, ob, none⟩ = some (.int .u32 (n : Int)) := fun w1 hd => (hd.below.cell (p := ⟨gb, ob, none⟩) hg).trans c0
  have hnB1 : n < 4294967296 := hnB
  rw [h1] at hc
  have HC := Lib.hid hc
  have HLM := Lib.hid hlm
  have HOF := Lib.hid hof
  have HCE := Lib.hid hcell
  unfold DivPost
  rw [h1]
  clear ha hb hbl hc hcc hlm hof hx hcell c0 hle hnB hla h1
  generalize (dg m).length = la at *
  generalize m % n = r at *
  go_enter Tryz.func98, Tryz.ntmps98
  go_wp2_with fail
  refine HC.out.mono ?_
  rintro e w1 ⟨rfl, hd⟩
  have c0 := HCE.out w1 hd
  go_wp2_with fail
  refine (HLM.out _ hd).mono ?_
  rintro e w2 ⟨v, he, hn, hb⟩
  subst he
  go_wp2_with fail
  refine (HOF.out _).mono ?_
  rintro e w3 ⟨v2, he, hn2, hb2⟩
  subst he
  go_wp2_with fail
  go_ret2
  exact ⟨v, v2, rfl, hn.up hb2, hn2, hb.trans (hb2.mono hb.size)⟩
end Go.Proofs.YtlababdfdjjjaaaGreatDoor
namespace Go.Proofs.YtlababdfdjjjaaaGreatDoor
open Go.RowKit

/-- What a divisor's shift makes of it. -/
theorem shift_div {n k x s : Nat} (hk : 1 ≤ k) (hl : (dg n).length = k) (hx : (dg n)[k - 1]? = some x) (hx0 : x ≠ 0) (hs : s = 32 - bitsOf x) (hxB : x < 4294967296) :
    s < 32 ∧ 2147483648 * LB ^ (k - 1) ≤ n * 2 ^ s ∧ n * 2 ^ s < LB ^ k := by
  have hb1 := bits_pos hx0
  have hb2 : bitsOf x ≤ 32 := bits_le_iff.2 (by have : (2:Nat)^32 = 4294967296 := rfl; omega)
  obtain ⟨c, hc⟩ : ∃ c, bitsOf x = c + 1 := ⟨bitsOf x - 1, by omega⟩
  have h1 := bits_le hx0
  have h2 := bits_lt x
  rw [hc, Nat.add_sub_cancel] at h1
  rw [hc] at h2 hs
  have hv := take_val hx
  obtain ⟨j, rfl⟩ : ∃ j, k = j + 1 := ⟨k - 1, by omega⟩
  rw [Nat.add_sub_cancel] at *
  rw [List.take_of_length_le (by omega), val_dg] at hv
  have hlt := val_lt (okL_take (ok_dg n) j)
  rw [List.length_take, Nat.min_eq_left (by omega)] at hlt
  have e31 : 2 ^ c * 2 ^ s = 2147483648 := by rw [← Nat.pow_add, show c + s = 31 by omega]
  have e32 : 2 ^ (c + 1) * 2 ^ s = LB := by rw [← Nat.pow_add, show c + 1 + s = 32 by omega]; rfl
  refine ⟨by omega, norm_div (k := j + 1) (x := x) (by omega) ?_ ?_ ?_⟩
  · rw [Nat.add_sub_cancel]
    constructor
    · rw [hv, Nat.mul_comm]; exact Nat.le_add_left _ _
    · rw [hv, Nat.add_mul, Nat.one_mul, Nat.mul_comm x, Nat.add_comm]; exact Nat.add_lt_add_left hlt _
  · rw [← e31]; exact Nat.mul_le_mul_right _ h1
  · rw [← e32]; exact Nat.mul_le_mul_right _ h2
theorem pow_two_lb {s : Nat} (hs : s < 32) : 2 ^ s ≤ LB := by
  have := Nat.pow_le_pow_right (show 0 < 2 by omega) (show s ≤ 32 by omega)
  exact this

def DvRel (w w2 : World) (g gQ A D N nq : Nat) (vd : Value) (i : Value) (wr : World) : Prop :=
  ∃ (j : Nat) (R Q : List Nat), j ≤ nq ∧ ((j = 0 ∧ i = .int .i64 (-1)) ∨ ∃ p, j = p + 1 ∧ i = .int .i64 (p : Int)) ∧ DivI A D j R Q ∧ Row wr g R ∧ R.length = N ∧ okL R ∧ Row wr gQ Q ∧ Q.length = nq ∧ okL Q ∧
    Num wr w2.heap.size vd D ∧ Below w.heap.size w wr ∧ w2.heap.size ≤ wr.heap.size

set_option maxRecDepth 100000 in
set_option maxHeartbeats 4000000 in
theorem divide_many (va vb : Value) (m n : Nat) (w : World) (ha : Num w w.heap.size va m) (hb : Num w w.heap.size vb n) (hla : (dg m).length ≤ 1000000) (hle : n ≤ m) (hk2 : 2 ≤ (dg n).length) :
    Calls Tryz.prog 98 #[va, vb] w (DivPost w m n) := by
  have hc := compare_any va vb m n w ha hb (by omega)
  obtain ⟨c, hcc, hc0⟩ : ∃ c : Int, cmpI m n = c ∧ 0 ≤ c := by
    rcases Nat.lt_or_ge n m with h | h
    · exact ⟨1, cmpI_gt h, by omega⟩
    · exact ⟨0, cmpI_eq (by omega), by omega⟩
  rw [hcc] at hc
  have hn0 : n ≠ 0 := by intro h; rw [h, dg_zero] at hk2; simp at hk2
  have hkl := dg_mono hle
  obtain ⟨k, hk⟩ : ∃ k, k = (dg n).length := ⟨_, rfl⟩
  obtain ⟨la, hlae⟩ : ∃ la, la = (dg m).length := ⟨_, rfl⟩
  obtain ⟨l, x, hl, hlo, hx0, hxB⟩ := last_limb hn0
  have hxk : (dg n)[k - 1]? = some x := by rw [hk, hl]; simp
  have hxB1 : x < 4294967296 := hxB
  obtain ⟨s, hs⟩ : ∃ s, s = 32 - bitsOf x := ⟨_, rfl⟩
  obtain ⟨hs32, hD1, hD2⟩ := shift_div (by omega) hk.symm hxk hx0 hs hxB1
  have hbx : bitsOf x ≤ 32 := bits_le_iff.2 (by have : (2:Nat)^32 = 4294967296 := rfl; omega)
  obtain ⟨hdl, hdtop⟩ := dg_top (by omega) hD1 hD2
  have hcl : ∀ w, Calls Tryz.prog 129 #[.int .u32 (x : Int)] w fun e w' => e = .returned (.int .i64 (s : Int)) ∧ w = w' := by
    intro w
    refine (Tryz.bits_LeadingZeros32 x w (by omega) (by omega)).mono ?_
    rintro e w' ⟨rfl, rfl⟩
    refine ⟨?_, rfl⟩
    rw [Int.toNat_natCast, bits32 x hxB1]
    congr 2
    omega
  -- the shifted numbers
  have hsb : ∀ w1, Drawn w w1 → Calls Tryz.prog 93 #[vb, .int .i64 (s : Int)] w1 fun e w' => ∃ v, e = .returned v ∧ Num w' w'.heap.size v (n * 2 ^ s) ∧ Below w.heap.size w w' := by
    intro w1 hd
    obtain ⟨q, rfl⟩ := hd
    refine (shiftUp_any vb n s _ (Lim.up hb (below_drewN w q)) (by omega) (by omega)).mono ?_
    rintro e w' ⟨v, rfl, h1, h2⟩
    exact ⟨v, rfl, h1, (below_drewN w q).trans h2⟩
  have hsa : ∀ w1, Below w.heap.size w w1 → Calls Tryz.prog 93 #[va, .int .i64 (s : Int)] w1 (NumPost w1 (m * 2 ^ s)) := by
    intro w1 hd
    exact shiftUp_any va m s w1 (Lim.up ha hd) (by omega) (by omega)
  have hAlt : m * 2 ^ s < LB ^ (la + 1) := by
    have h1 := lt_dg m
    rw [← hlae] at h1
    have h2 : m * 2 ^ s < LB ^ la * 2 ^ s := Nat.mul_lt_mul_of_pos_right h1 (Nat.two_pow_pos s)
    have h3 : LB ^ la * 2 ^ s ≤ LB ^ la * LB := Nat.mul_le_mul_left _ (pow_two_lb hs32)
    have p1 : LB ^ (la + 1) = LB ^ la * LB := Nat.pow_succ ..
    rw [p1]; exact Nat.lt_of_lt_of_le h2 h3
  have hAl : (dg (m * 2 ^ s)).length ≤ la + 1 := dg_le.2 hAlt
  have hml : m < LB ^ la := by rw [hlae]; exact lt_dg m
  obtain ⟨D, hDe⟩ : ∃ D, D = n * 2 ^ s := ⟨_, rfl⟩
  obtain ⟨A', hAe⟩ : ∃ A', A' = m * 2 ^ s := ⟨_, rfl⟩
  have hqe : m / n = A' / D := by rw [hAe, hDe, Nat.mul_div_mul_right _ _ (Nat.two_pow_pos s)]
  have hre : m % n = A' % D / 2 ^ s := by rw [hAe, hDe, Nat.mul_mod_mul_right, Nat.mul_div_cancel _ (Nat.two_pow_pos s)]
  have hstart : ∀ (R Q : List Nat) (nq : Nat), okL R → val R = A' → Q.length = nq → nq = la - k + 1 → DivI A' D nq R Q := fun R Q nq h1 h2 h3 h4 => DivI.start hml hAe hs32 (by omega) (by omega) (by rw [hDe]; exact hD1) h1 h2 h3 h4
  rw [← hDe] at hsb hD1 hD2 hdl hdtop
  rw [← hAe] at hsa hAl
  have hD0 : 0 < D := by have := pow_pos' (k - 1); omega
  unfold DivPost
  rw [hqe, hre]
  obtain ⟨Ba, capa, rfl, -⟩ := ha.form
  obtain ⟨Bb, capb, rfl, -⟩ := hb.form
  obtain ⟨gb, ob, rfl, hg, c0⟩ := Lim.cell (n := (dg n).length) (cap := capb) (A := Bb) hb hxk
  have hcell : ∀ w1, Drawn w w1 → w1.cell? ⟨gb, ob + (k - 1), none⟩ = some (.int .u32 (x : Int)) := fun w1 hd => (hd.below.cell (p := ⟨gb, ob + (k - 1), none⟩) hg).trans c0
  rw [← hlae, ← hk] at hc
  rw [← hk] at hsb
  rw [← hlae] at hsa
  rw [← hlae, ← hk]
  have hk2' : 2 ≤ k := by omega
  have hkla : k ≤ la := by omega
  have hla' : la ≤ 1000000 := by omega
  have hmk1 := fun W => mkI ((la : Int) + 1) (la + 1) (by omega) (by omega) W
  obtain ⟨nq, hnq, hnq1, hnq2⟩ : ∃ nq, nq = la - k + 1 ∧ la + 1 ≤ nq + k ∧ nq + k ≤ la + 1 := ⟨_, rfl, by omega, by omega⟩
  have hmk2 := fun W => mkI ((la : Int) - (k : Int) + 1) nq (by omega) (by omega) W
  obtain ⟨kk, hkk⟩ : ∃ kk, k = kk + 1 := ⟨k - 1, by omega⟩
  have HC := Lib.hid hc
  have HCL := Lib.hid hcl
  have HSB := Lib.hid hsb
  have HSA := Lib.hid hsa
  have HST := Lib.hid hstart
  have HCE := Lib.hid hcell
  have HAL := Lib.hid hAl
  have HDL := Lib.hid hdl
  have HDT := Lib.hid hdtop
  have HD2 := Lib.hid hD2
  have HNQ := Lib.hid hnq
  have HKK := Lib.hid hkk
  clear hc hcl hsb hsa hstart hcell hAl hdl hdtop hD1 hD2 ha hb hle hkl hxk hx0 hl hlo hxB hxB1 hbx hs hAlt hml hDe hAe hqe hre c0 hk hlae hcc hk2 hla hnq hkk
  go_enter Tryz.func98, Tryz.ntmps98
  go_wp2_with fail
  refine HC.out.mono ?_
  rintro e w1 ⟨rfl, hd⟩
  have c0 := HCE.out w1 hd
  have i0 : IntKind.i64.wrap ((k : Int) - 1) = (k : Int) - 1 := IntWalk.i64_in _ (by omega)
  have i1 : ((k : Int) - 1).toNat = k - 1 := by omega
  have q1 : decide (c < 0) = false := decide_eq_false (by omega)
  have q2 : ((k : Int) == 1) = false := beq_false_of_ne (by omega)
  go_wp2_with fail
  refine (HCL.out w1).mono ?_
  rintro e w1' ⟨rfl, rfl⟩
  go_wp2_with fail
  refine (HSB.out _ hd).mono ?_
  rintro e w2 ⟨vd, he, hnd, hb2⟩
  subst he
  go_wp2_with fail
  have hb3 : Below w2.heap.size w2 (w2.alloc (.cells (zeros (la + 1)).toArray 64)) := (Below.refl _ _).alloc (Nat.le_refl _) _
  have hr3 := Row.new w2 (la + 1)
  refine (HSA.out _ (hb2.trans (hb3.mono hb2.size))).mono ?_
  rintro e w4 ⟨va', he, hna, hb4⟩
  subst he
  have hr4 := hr3.up hb4
  have hg4 : w2.heap.size + 1 ≤ w4.heap.size := by have := hb4.size; rw [World.size_alloc] at this; exact this
  have hb24 : Below w2.heap.size w2 w4 := hb3.trans (hb4.mono (by simp))
  obtain ⟨A4, cap4, rfl, -⟩ := hna.form
  obtain ⟨w5, hcp, hr5, hg5, hz5⟩ := copyV w4 A4 w2.heap.size 0 (la + 1) (la + 1) (dg A').length cap4 w4.heap.size (List.replicate (la + 1) 0) (dg A') hr4 rfl hna HAL.out (by have := HAL.out; simp; omega)
  rw [splice_pad] at hr5
  have hb25 : Below w2.heap.size w2 w5 := below_grown hb24 hg5 (Nat.le_refl _)
  have hlim5 := hnd.up hb25
  obtain ⟨Rl, hRl⟩ : ∃ Rl, Rl = dg A' ++ List.replicate (la + 1 - (dg A').length) 0 := ⟨_, rfl⟩
  have hRlen : Rl.length = la + 1 := by rw [hRl]; have := HAL.out; simp; omega
  have hRok : okL Rl := by rw [hRl]; exact pad_ok (ok_dg _) _
  have hRval : val Rl = A' := by rw [hRl, take_zero_pad, val_dg]
  rw [← hRl] at hr5
  have HR5 := Lib.hid hr5
  have HCP := Lib.hid hcp
  clear hRl hr3 hr4 hna hr5
  generalize (dg A').length = lA at *
  go_wp2_with fail
  go_loopw [11] (fun i wr => DvRel w w2 w2.heap.size w4.heap.size A' D (la + 1) nq vd i wr) (fun i _ => mI i)
  case atStart =>
    refine ⟨nq, Rl, List.replicate nq 0, Nat.le_refl _, ?_, HST.out _ _ nq hRok hRval (by simp) HNQ.out, HR5.out.alloc _, hRlen, hRok, by have := Row.new w5 nq; rw [hz5] at this; exact this, by simp, okL_zero nq, ?_, ?_, ?_⟩
    · right; exact ⟨nq - 1, by omega, by congr 1; omega⟩
    · exact Lim.below (Lim.below hnd hb25) (((Below.refl _ w5).alloc (Nat.le_refl _) _).mono hb25.size)
    · exact (hb2.trans (hb25.mono hb2.size)).trans (((Below.refl _ w5).alloc (Nat.le_refl _) _).mono (Nat.le_trans hb2.size hb25.size))
    · rw [World.size_alloc]; exact Nat.le_succ_of_le hb25.size
  case round =>
    obtain ⟨j, R, Q, hjn, hcase, hdi, hrowR, hRl, hRo, hrowQ, hQl, hQo, hvd, hbw, hsz⟩ := hrel
    rcases hcase with ⟨rfl, rfl⟩ | ⟨p, rfl, rfl⟩
    · obtain ⟨hq, hr⟩ := hdi.result hD0
      have hlQ := hrowQ.whole hQo nq (by omega)
      have hlR := hrowR.whole hRo (la + 1) (by omega)
      have htq := trim_at _ _ _ _ wr hlQ (by omega)
      have htr := trim_at _ _ _ _ wr hlR (by omega)
      have hnQ := hlQ.trimmed
      have hnR := hlR.trimmed
      rw [hQl, hq] at htq
      rw [hRl, hr] at htr
      rw [hq] at hnQ
      rw [hr] at hnR
      have hlr : (dg (A' % D)).length ≤ 100000000 := Nat.le_trans (dg_le.2 (by rw [← hr]; exact val_lt hRo)) (by omega)
      have hsd := shiftDown_any _ (A' % D) s wr hnR (by omega) hlr
      have HTQ := Lib.hid htq
      have HTR := Lib.hid htr
      have HNQ2 := Lib.hid hnQ
      have HSD := Lib.hid hsd
      obtain ⟨Bd, capd, rfl, -⟩ := hvd.form
      rw [HDL.out]
      clear htq htr hnQ hnR hsd hlQ hlR hq hr hdi hrowR hrowQ hvd hlr
      generalize (dg (A' / D)).length = lq at *
      generalize (dg (A' % D)).length = lr at *
      go_wp2_with fail
      refine HTQ.out.mono ?_
      rintro e w6 ⟨rfl, rfl⟩
      go_wp2_with fail
      refine HTR.out.mono ?_
      rintro e w6 ⟨rfl, rfl⟩
      go_wp2_with fail
      refine HSD.out.mono ?_
      rintro e w7 ⟨v, he, hn, hb7⟩
      subst he
      go_wp2_with fail
      go_ret2
      exact ⟨_, v, rfl, HNQ2.out.up hb7, hn, hbw.trans (hb7.mono hbw.size)⟩
    · have hpart := div_part (k := k) hRo (by omega) hdi.lt (Nat.le_of_lt HD2.out)
      have hto := takeOut_any w2.heap.size w2.heap.size p (la + 1 - p) R (dg D) vd wr hrowR hRo hvd (Nat.le_refl _) hsz (by rw [HDL.out]; exact hk2') (by rw [HDL.out]; omega) (by omega) (by rw [HDL.out]; omega) (by rw [HDL.out]; exact HDT.out) (by rw [HDL.out, val_dg, hpart.1]; exact hpart.2)
      rw [HDL.out, val_dg] at hto
      obtain ⟨Bd, capd, rfl, -⟩ := hvd.form
      rw [HDL.out] at hto hvd
      have HTO := Lib.hid hto
      have HVD := Lib.hid hvd
      have HDI := Lib.hid hdi
      clear hto hpart hdi hvd
      try rw [HDL.out]
      go_wp2_with fail
      rw [show p + k + 1 - p = k + 1 by omega]
      refine HTO.out.mono ?_
      rintro e w7 ⟨r, he, hrl, hro, hrv, hrow7, hg7, hz7⟩
      subst he
      have hne : w4.heap.size ≠ w2.heap.size := by omega
      have hrowQ7 : Row w7 w4.heap.size Q := (hg7.block _ hrowQ.lt (by intro e; injection e with e; omega)).trans hrowQ
      have c7 := hrowQ7.cell (i := p) (x := Q[p]'(by omega)) (List.getElem?_eq_getElem (by omega))
      have f7 := hrowQ7.frozen p
      have hdn := HDI.out.next hRo (by omega) (by omega) (Nat.le_of_lt HD2.out) hD0 hrl hrv
      have hqlt : val ((R.drop p).take (k + 1)) / D < LB := by
        have h := div_part (k := k) hRo (by omega) HDI.out.lt (Nat.le_of_lt HD2.out)
        rw [Nat.div_lt_iff_lt_mul hD0, h.1, Nat.mul_comm LB]; exact h.2
      have hs8 : ∀ y, Row (w7.setCell ⟨w4.heap.size, p, none⟩ (.int .u32 ((y : Nat) : Int))) w2.heap.size (upd R p r) := fun y => hrow7.other _ hne.symm
      have hb7 : Below w.heap.size w w7 := below_grown hbw hg7 (hb2.size)
      obtain ⟨qd, hqd⟩ : ∃ qd, qd = val ((R.drop p).take (k + 1)) / D := ⟨_, rfl⟩
      rw [← hqd] at hdn hqlt ⊢
      have hb8 : Below w.heap.size w (w7.setCell ⟨w4.heap.size, p, none⟩ (.int .u32 (qd : Int))) := hb7.setCell (p := ⟨w4.heap.size, p, none⟩) (by have := hb2.size; show w.heap.size ≤ w4.heap.size; omega) _
      have hvd8 : Lim (w7.setCell ⟨w4.heap.size, p, none⟩ (.int .u32 (qd : Int))) w2.heap.size (.slice Bd k capd) (dg D) := by
        have h := HVD.out
        have h2 : Lim wr w2.heap.size (.slice Bd k capd) (dg D) := h
        exact (h2.grown hg7 (Nat.le_refl _) hsz).below ((Below.refl _ w7).setCell (p := ⟨w4.heap.size, p, none⟩) (by show w2.heap.size ≤ w4.heap.size; omega) _)
      have HDN := Lib.hid hdn
      have HQ := Lib.hid hqlt
      have HRV := Lib.hid hrv
      clear hdn hrv hqlt hqd
      have hpq : (p : Int) < (nq : Int) := by omega
      go_wp2_with fail
      have hcase' : (p = 0 ∧ Value.int IntKind.i64 ((p : Int) - 1) = .int .i64 (-1)) ∨ ∃ p', p = p' + 1 ∧ Value.int IntKind.i64 ((p : Int) - 1) = .int .i64 (p' : Int) := by
        rcases Nat.eq_zero_or_pos p with h | h
        · left; exact ⟨h, by rw [h]; rfl⟩
        · right; exact ⟨p - 1, by omega, by congr 1; omega⟩
      have hqok : okL (Q.set p qd) := by
        intro z hz
        rcases List.mem_or_eq_of_mem_set hz with h | h
        · exact hQo z h
        · rw [h]; exact HQ.out
      exact ⟨⟨p, upd R p r, Q.set p qd, by omega, hcase', HDN.out, hs8 qd, by rw [upd_len _ _ _ (by omega)]; exact hRl, upd_ok p hRo hro, hrowQ7.set p qd, by simp [hQl], hqok, hvd8, hb8, by simp [World.setCell]; omega⟩, by simp [mI]⟩

theorem divide_any (va vb : Value) (m n : Nat) (w : World) (ha : Num w w.heap.size va m) (hb : Num w w.heap.size vb n) (hla : (dg m).length ≤ 1000000) (hn : n ≠ 0) :
    Calls Tryz.prog 98 #[va, vb] w (DivPost w m n) := by
  by_cases h : m < n
  · exact divide_less va vb m n w ha hb (by omega) h
  · by_cases h1 : (dg n).length = 1
    · exact divide_one va vb m n w ha hb (by omega) (by omega) h1
    · have h0 : (dg n).length ≠ 0 := fun e => hn (dg_nil.1 (List.eq_nil_of_length_eq_zero e))
      exact divide_many va vb m n w ha hb hla (by omega) (by omega)
end Go.Proofs.YtlababdfdjjjaaaGreatDoor
namespace Go.Proofs.YtlababdfdjjjaaaGreatDoor
open Go.RowKit

theorem mul_pow_lt {p a l N : Nat} (hp : p < LB) (ha : a < LB ^ l) (hl : l + 1 ≤ N) : p * a < LB ^ N := by
  have h1 : p * a < LB * LB ^ l := by
    rcases Nat.eq_zero_or_pos a with h | h
    · rw [h, Nat.mul_zero]; exact Nat.mul_pos LB_pos (pow_pos' l)
    · exact Nat.lt_of_lt_of_le (Nat.mul_lt_mul_of_pos_right hp h) (Nat.mul_le_mul_left _ (Nat.le_of_lt ha))
  have p1 : LB ^ (l + 1) = LB * LB ^ l := by rw [Nat.pow_succ, Nat.mul_comm]
  exact Nat.lt_of_lt_of_le (by rw [p1]; exact h1) (Nat.pow_le_pow_right LB_pos hl)

set_option maxRecDepth 100000 in
set_option maxHeartbeats 2000000 in
theorem timesLess_any (va vb : Value) (a b p q : Nat) (w : World) (ha : Num w w.heap.size va a) (hb : Num w w.heap.size vb b) (hla : (dg a).length ≤ 10000000) (hlb : (dg b).length ≤ 10000000) (hp : p < LB) (hq : q < LB) (hle : q * b ≤ p * a) :
    Calls Tryz.prog 154 #[va, .int .u64 (p : Int), vb, .int .u64 (q : Int)] w (NumPost w (p * a - q * b)) := by
  obtain ⟨N, hN⟩ : ∃ N, N = max (dg a).length (dg b).length + 1 := ⟨_, rfl⟩
  have hb0 : Below w.heap.size w (w.alloc (.cells (zeros N).toArray 64)) := (Below.refl _ _).alloc (Nat.le_refl _) _
  have haB : p * a < LB ^ N := mul_pow_lt hp (lt_dg a) (by omega)
  have hA : Lim w w.heap.size va (dg a) := ha
  have hB : Lim w w.heap.size vb (dg b) := hb
  have hadd := addTimes_any w.heap.size w.heap.size 0 N N (List.replicate N 0) (dg a) va p _ (Row.new w N) (okL_zero N) (hA.below hb0) (Nat.le_refl _) hb0.size hp (by omega) (by simp) (by simp; omega) (Nat.le_refl _)
  have hone : ∀ r cy, val r + cy * LB ^ N = val (((List.replicate N 0).drop 0).take N) + p * val (dg a) → val r = p * a := by
    intro r cy h
    rw [List.drop_zero, List.take_of_length_le (by simp), val_zero, Nat.zero_add, val_dg] at h
    exact no_carry h haB
  have hupd : ∀ (L r : List Nat), L.length = N → r.length = N → upd L 0 r = r := by
    intro L r h1 h2
    unfold upd
    rw [List.drop_eq_nil_of_le (by omega)]; simp
  have htake : ∀ (w2 : World) (r : List Nat), r.length = N → okL r → Row w2 w.heap.size (upd (List.replicate N 0) 0 r) → Below w.heap.size w w2 → val r = p * a →
      Calls Tryz.prog 128 #[.slice (some ⟨w.heap.size, 0, none⟩) N N, vb, .int .u32 (q : Int)] w2 fun e w' =>
        (∃ v, e = .returned v) ∧ ∃ r' : List Nat, r'.length = N ∧ okL r' ∧ val r' = p * a - q * b ∧ Row w' w.heap.size r' ∧ Below w.heap.size w w' := by
    intro w2 r h1 h2 h3 h4 h5
    rw [hupd _ _ (by simp) h1] at h3
    refine (takeTimes_any w.heap.size w.heap.size 0 N N r (dg b) vb q w2 h3 h2 (hB.below h4) (Nat.le_refl _) h4.size hq (by omega) (by omega) (by omega) (Nat.le_refl _)).mono ?_
    rintro e w' ⟨r', bw, rfl, g1, g2, g3, g4, g5, g6⟩
    rw [hupd _ _ h1 g1] at g4
    refine ⟨⟨_, rfl⟩, r', g1, g2, ?_, g4, below_grown h4 g5 (Nat.le_refl _)⟩
    rw [List.drop_zero, List.take_of_length_le (by omega), h5, val_dg] at g3
    have h6 : val r' < LB ^ N := by have := val_lt g2; rw [g1] at this; exact this
    refine carry_same (x := 0) (y := bw) h6 (Nat.lt_of_le_of_lt (Nat.sub_le _ _) haB) ?_
    rw [Nat.zero_mul]
    omega
  obtain ⟨A, capa, rfl, -⟩ := ha.form
  obtain ⟨B, capb, rfl, -⟩ := hb.form
  have HA := Lib.hid hadd
  have HO := Lib.hid hone
  have HT := Lib.hid htake
  have hp1 : p < 4294967296 := hp
  have hq1 : q < 4294967296 := hq
  clear ha hb hA hB hadd hone htake hupd haB hp hq hle hb0
  generalize p * a - q * b = res at *
  generalize (dg a).length = la at *
  generalize (dg b).length = lb at *
  have hmk := fun W => mkI (max (la : Int) (lb : Int) + 1) N (by omega) (by omega) W
  have HN := Lib.hid hN
  clear hN
  go_enter Tryz.func154, Tryz.ntmps154
  go_wp2_with fail
  refine HA.out.mono ?_
  rintro e w2 ⟨⟨v, he⟩, r, hrl, hro, ⟨cy, hrv⟩, hrow, hgr, hz⟩
  subst he
  have hv1 := HO.out _ _ hrv
  have hb2 : Below w.heap.size w w2 := below_grown ((Below.refl w.heap.size w).alloc (Nat.le_refl _) _) hgr (Nat.le_refl _)
  have HTT := Lib.hid (HT.out w2 r hrl hro hrow hb2 hv1)
  clear hrv hv1 hrl hro hrow hgr hz
  go_wp2_with fail
  refine HTT.out.mono ?_
  rintro e w3 ⟨⟨v2, he⟩, r', hrl, hro, hrv, hrow, hb3⟩
  subst he
  have hlim := hrow.whole hro N (by omega)
  have htr := trim_any _ _ _ hlim (by have := HN.out; omega)
  rw [hrl, hrv] at htr
  have HTR := Lib.hid htr
  clear hrl hro hrv hrow hlim htr
  go_wp2_with fail
  refine HTR.out.mono ?_
  rintro e w4 ⟨v3, he, hnum, rfl⟩
  subst he
  go_wp2_with fail
  go_ret
  exact ⟨v3, rfl, hnum, hb3⟩

/-- Some steps, as the program holds them. -/
def stepsV (p q r s : Nat) (odd : Bool) : List Value := [.int .u64 (p : Int), .int .u64 (q : Int), .int .u64 (r : Int), .int .u64 (s : Int), .bool odd]
end Go.Proofs.YtlababdfdjjjaaaGreatDoor
namespace Go.Proofs.YtlababdfdjjjaaaGreatDoor
open Go.RowKit

/-- Some steps, as the program holds them. -/
def stV (p q r s : Nat) (odd : Bool) : Array Value := #[.int .u64 (p : Int), .int .u64 (q : Int), .int .u64 (r : Int), .int .u64 (s : Int), .bool odd]
/-- Block g holds steps. -/
def Stp (W : World) (g : Nat) (p q r s : Nat) (odd : Bool) : Prop := W.heap[g]? = some (.cells (stV p q r s odd) 125 (0, 0))
theorem Stp.c0 {W : World} {g p q r s : Nat} {odd : Bool} (h : Stp W g p q r s odd) : W.cell? ⟨g, 0, none⟩ = some (.int .u64 (p : Int)) := by rw [Go.Joins.cell_of_block h 0]; rfl
theorem Stp.c1 {W : World} {g p q r s : Nat} {odd : Bool} (h : Stp W g p q r s odd) : W.cell? ⟨g, 1, none⟩ = some (.int .u64 (q : Int)) := by rw [Go.Joins.cell_of_block h 1]; rfl
theorem Stp.c2 {W : World} {g p q r s : Nat} {odd : Bool} (h : Stp W g p q r s odd) : W.cell? ⟨g, 2, none⟩ = some (.int .u64 (r : Int)) := by rw [Go.Joins.cell_of_block h 2]; rfl
theorem Stp.c3 {W : World} {g p q r s : Nat} {odd : Bool} (h : Stp W g p q r s odd) : W.cell? ⟨g, 3, none⟩ = some (.int .u64 (s : Int)) := by rw [Go.Joins.cell_of_block h 3]; rfl
theorem Stp.c4 {W : World} {g p q r s : Nat} {odd : Bool} (h : Stp W g p q r s odd) : W.cell? ⟨g, 4, none⟩ = some (.bool odd) := by rw [Go.Joins.cell_of_block h 4]; rfl
theorem Stp.new (W : World) (p q r s : Nat) (odd : Bool) : Stp (W.alloc (.cells (stV p q r s odd) 125)) W.heap.size p q r s odd := World.alloc_heap_new W _
theorem Stp.below {W W' : World} {B g p q r s : Nat} {odd : Bool} (h : Stp W g p q r s odd) (hb : Below B W W') (hg : g < B) : Stp W' g p q r s odd := (hb.block g hg).trans h

set_option maxRecDepth 100000 in
set_option maxHeartbeats 2000000 in
theorem then_any (p q r s n : Nat) (odd : Bool) (w : World) (h1 : p + n * r < 18446744073709551616) (h2 : q + n * s < 18446744073709551616) :
    Calls Tryz.prog 153 #[.agg (stV p q r s odd), .int .u64 (n : Int)] w fun e w' => e = .returned (.agg (stV r s (p + n * r) (q + n * s) (!odd))) ∧ Below w.heap.size w w' := by
  obtain ⟨X, hX, e1⟩ : ∃ X, X = n * r ∧ IntKind.u64.wrap ((n : Int) * (r : Int)) = (X : Int) := ⟨_, rfl, by rw [← Int.natCast_mul, wrap_u]; omega⟩
  obtain ⟨Y, hY, e2⟩ : ∃ Y, Y = n * s ∧ IntKind.u64.wrap ((n : Int) * (s : Int)) = (Y : Int) := ⟨_, rfl, by rw [← Int.natCast_mul, wrap_u]; omega⟩
  rw [← hX] at h1 ⊢
  rw [← hY] at h2 ⊢
  have e3 : IntKind.u64.wrap ((p : Int) + (X : Int)) = ((p + X : Nat) : Int) := by rw [← Int.natCast_add, wrap_u h1]
  have e4 : IntKind.u64.wrap ((q : Int) + (Y : Int)) = ((q + Y : Nat) : Int) := by rw [← Int.natCast_add, wrap_u h2]
  have hst := Stp.new w p q r s odd
  have c0 := hst.c0
  have c1 := hst.c1
  have c2 := hst.c2
  have c3 := hst.c3
  have c4 := hst.c4
  simp only [stV] at c0 c1 c2 c3 c4 ⊢
  clear hX hY h1 h2 hst
  go_enter Tryz.func153, Tryz.ntmps153
  go_wp2
  refine bodyPost_ret (v := .agg #[.int .u64 (r : Int), .int .u64 (s : Int), .int .u64 ((p : Int) + (X : Int)), .int .u64 ((q : Int) + (Y : Int)), .bool !odd]) ?_ rfl ⟨by simp, ((Below.refl _ w).alloc (Nat.le_refl _) _).alloc (by simp) _⟩
  simp [results, Tryz.results153, go_sem]
end Go.Proofs.YtlababdfdjjjaaaGreatDoor
