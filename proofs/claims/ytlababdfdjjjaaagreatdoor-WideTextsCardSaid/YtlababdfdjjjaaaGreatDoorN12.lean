import Derived.Test.YtlababdfdjjjaaaGreatDoorN11
import Derived.Test.YtlababdfdjjjaaaGreatDoorNB
import Derived.Test.YtlababdfdjjjaaaGreatDoorP4
namespace Go.Proofs.YtlababdfdjjjaaaGreatDoor
open Go.RowKit

theorem upd_part {L r : List Nat} {o n : Nat} (hr : r.length = n) (h : o + n ≤ L.length) : ((upd L o r).drop o).take n = r := by
  unfold upd
  have hl : (L.take o).length = o := by rw [List.length_take]; omega
  rw [List.append_assoc, List.drop_append, List.drop_eq_nil_of_le (by omega), hl, Nat.sub_self, List.drop_zero, List.nil_append, List.take_append_of_le_length (by omega), List.take_of_length_le (by omega)]
theorem upd_upd {L r r' : List Nat} {o n : Nat} (hr : r.length = n) (hr' : r'.length = n) (h : o + n ≤ L.length) : upd (upd L o r) o r' = upd L o r' := by
  have hl : (L.take o).length = o := by rw [List.length_take]; omega
  have e1 : (upd L o r).take o = L.take o := by
    unfold upd
    rw [List.append_assoc, List.take_append_of_le_length (by omega), List.take_of_length_le (by omega)]
  have e2 : (upd L o r).drop (o + n) = L.drop (o + n) := by
    unfold upd
    rw [List.drop_append, List.drop_eq_nil_of_le (by simp; omega), hr]
    simp only [List.length_append, hl, hr, Nat.sub_self, List.drop_zero, List.nil_append]
  show (upd L o r).take o ++ r' ++ (upd L o r).drop (o + r'.length) = L.take o ++ r' ++ L.drop (o + r'.length)
  rw [hr', e1, e2]

def OutPost (g o k : Nat) (L : List Nat) (D : Nat) (w : World) (e : Ending) (w' : World) : Prop :=
  ∃ r : List Nat, e = .returned (.int .u32 ((val ((L.drop o).take k) / D : Nat) : Int)) ∧ r.length = k ∧ okL r ∧ val r = val ((L.drop o).take k) % D ∧ Row w' g (upd L o r) ∧ w.grownBy w' (some g) ∧ w'.heap.size = w.heap.size

set_option maxRecDepth 100000 in
set_option maxHeartbeats 4000000 in
theorem takeOut_any (B g o cap : Nat) (L b : List Nat) (vb : Value) (w : World) (hr : Row w g L) (hL : okL L) (hb : Lim w B vb b) (hB : B ≤ g) (hBw : B ≤ w.heap.size) (hk : 2 ≤ b.length) (hon : o + (b.length + 1) ≤ L.length) (hLen : L.length ≤ 1000000000) (hcap : b.length + 1 ≤ cap)
    (htop : ∃ x, b[b.length - 1]? = some x ∧ 2147483648 ≤ x) (hlt : val ((L.drop o).take (b.length + 1)) < val b * LB) :
    Calls Tryz.prog 130 #[.slice (some ⟨g, o, none⟩) (b.length + 1) cap, vb] w (OutPost g o (b.length + 1) L (val b) w) := by
  have hgu := guess_any B g o cap L b vb w hr hL hb hk hon hLen htop hlt
  have hpos : 0 < val b := Nat.pos_of_ne_zero (fun h0 => by rw [h0, Nat.zero_mul] at hlt; exact absurd hlt (Nat.not_lt_zero _))
  have hpl : (((L.drop o).take (b.length + 1))).length = b.length + 1 := by rw [List.length_take, List.length_drop]; omega
  have haM : val ((L.drop o).take (b.length + 1)) < LB ^ (b.length + 1) := by
    have := val_lt (okL_take (okL_drop hL o) (b.length + 1))
    rw [hpl] at this; exact this
  have htk : ∀ (w1 : World) (n : Nat), Drawn w w1 → n < LB → Calls Tryz.prog 128 #[.slice (some ⟨g, o, none⟩) (b.length + 1) cap, vb, .int .u32 (n : Int)] w1 fun e w' =>
      ∃ (r : List Nat) (bw : Nat), e = .returned (.bool (decide (0 < bw))) ∧ r.length = b.length + 1 ∧ okL r ∧ val r + n * val b = val ((L.drop o).take (b.length + 1)) + bw * LB ^ (b.length + 1) ∧ Row w' g (upd L o r) ∧ w.grownBy w' (some g) ∧ w'.heap.size = w.heap.size := by
    intro w1 n hd hn
    obtain ⟨q, rfl⟩ := hd
    refine (takeTimes_any B g o (b.length + 1) cap L b vb n _ (hr.drewN q) hL (hb.grown (grownBy_drewN w (some g) q) hB hBw) hB hBw hn (by omega) hon hLen hcap).mono ?_
    rintro e w' ⟨r, bw, h1, h2, h3, h4, h5, h6, h7⟩
    exact ⟨r, bw, h1, h2, h3, h4, h5, grownBy_trans (grownBy_drewN w (some g) q) h6, h7⟩
  have hadd : ∀ (w2 : World) (r : List Nat), Row w2 g (upd L o r) → okL r → r.length = b.length + 1 → w.grownBy w2 (some g) → Calls Tryz.prog 126 #[.slice (some ⟨g, o, none⟩) (b.length + 1) cap, vb, .int .u32 1] w2 fun e w' => (∃ v, e = .returned v) ∧
      ∃ r' : List Nat, r'.length = b.length + 1 ∧ okL r' ∧ (∃ cy, val r' + cy * LB ^ (b.length + 1) = val r + 1 * val b) ∧ Row w' g (upd L o r') ∧ w2.grownBy w' (some g) ∧ w'.heap.size = w2.heap.size := by
    intro w2 r hr2 hor hrl hg2
    have := addTimes_any B g o (b.length + 1) cap (upd L o r) b vb 1 w2 hr2 (upd_ok o hL hor) (hb.grown hg2 hB hBw) hB (Nat.le_trans hBw hg2.size) (by rw [LB_eq]; omega) (by omega) (by rw [upd_len _ _ _ (by omega)]; exact hon) (by rw [upd_len _ _ _ (by omega)]; exact hLen) hcap
    refine this.mono ?_
    rintro e w' ⟨h1, r', h2, h3, h4, h5, h6, h7⟩
    rw [upd_part hrl hon] at h4
    rw [upd_upd hrl h2 hon] at h5
    exact ⟨h1, r', h2, h3, h4, h5, h6, h7⟩
  have HGU := Lib.hid hgu
  have HTK := Lib.hid htk
  have HAD := Lib.hid hadd
  have HM := Lib.hid haM
  obtain ⟨A, capb, rfl, -⟩ := hb.form
  clear hr hL hb htop hlt hgu htk hadd haM hpl
  unfold OutPost
  generalize val ((L.drop o).take (b.length + 1)) = a at *
  have HP := Lib.hid hpos
  clear hpos
  go_enter Tryz.func130, Tryz.ntmps130
  go_wp2_with (go_at_call 152; refine HGU.out.mono ?_; rintro e w1 ⟨n, rfl, hn, hq1, hq2, hdr⟩)
  have HQ := Lib.hid (And.intro hq1 hq2)
  have hn1 : n < 4294967296 := hn
  refine (HTK.out w1 n hdr hn).mono ?_
  rintro e w2 ⟨r, bw, rfl, hrl, hro, hv, hrow, hgr, hsz⟩
  clear hq1 hq2 hn
  have HV := Lib.hid hv
  clear hv
  by_cases hbw : 0 < bw
  · have hd : decide (0 < bw) = true := decide_eq_true hbw
    have hn0 : 1 ≤ n := by
      rcases Nat.eq_zero_or_pos n with h0 | h0
      · exfalso
        have h1 := HV.out
        have h2 : val r < LB ^ (b.length + 1) := by have := val_lt hro; rw [hrl] at this; exact this
        have h3 : LB ^ (b.length + 1) ≤ bw * LB ^ (b.length + 1) := Nat.le_mul_of_pos_left _ hbw
        rw [h0, Nat.zero_mul] at h1
        omega
      · exact h0
    obtain ⟨m, hm⟩ : ∃ m, n = m + 1 := ⟨n - 1, by omega⟩
    have i1 : (n : Int) - 1 = (m : Int) := by omega
    have i2 : IntKind.u32.wrap ((n : Int) - 1) = (m : Int) := by rw [i1, IntKind.wrap_u32]; omega
    have hm1 : m < 4294967296 := by omega
    have HMM := Lib.hid hm
    clear i1 hm
    rw [hd]
    go_wp2_with (go_at_call 126; refine (HAD.out w2 r hrow hro hrl hgr).mono ?_; rintro e w3 ⟨⟨v, rfl⟩, r', hrl', hro', ⟨cy, hv'⟩, hrow', hgr', hsz'⟩)
    go_ret
    have h1 := HV.out
    have h2 : val r < LB ^ (b.length + 1) := by have := val_lt hro; rw [hrl] at this; exact this
    have h3 : val r' < LB ^ (b.length + 1) := by have := val_lt hro'; rw [hrl'] at this; exact this
    obtain ⟨e1, e2, e3⟩ := out_more h1 h2 h3 hbw HQ.out.2 HP.out HM.out hv'
    exact ⟨r', by rw [← e2, HMM.out]; rfl, hrl', hro', e3, hrow', grownBy_trans hgr hgr', by rw [hsz', hsz]⟩
  · have hd : decide (0 < bw) = false := decide_eq_false hbw
    obtain rfl : bw = 0 := by omega
    rw [hd]
    go_wp2
    go_ret
    have h1 := HV.out
    rw [Nat.zero_mul, Nat.add_zero] at h1
    obtain ⟨e1, e2⟩ := out_zero h1 HQ.out.1 HP.out
    exact ⟨r, by rw [e1]; rfl, hrl, hro, e2, hrow, hgr, hsz⟩
end Go.Proofs.YtlababdfdjjjaaaGreatDoor
