import Derived.Test.YtmmgbofhbnflkaaI3
namespace Go.Proofs.Ytmmgbofhbnflkaa
open Go.RowKit

theorem bl_spec : ∀ (f x : Nat), 0 < x → x < 2 ^ f → 2 ^ (Lib.bitLenAux f x) ≤ 2 * x ∧ x < 2 ^ (Lib.bitLenAux f x) ∧ Lib.bitLenAux f x ≤ f
  | 0, x, h0, h => by omega
  | f + 1, x, h0, h => by
    unfold Lib.bitLenAux
    rw [if_neg (by omega), Nat.add_comm 1, Nat.pow_succ]
    by_cases h1 : x = 1
    · subst h1
      have : Lib.bitLenAux f (1 / 2) = 0 := by cases f <;> rfl
      rw [this]
      omega
    · obtain ⟨a, b, c⟩ := bl_spec f (x / 2) (by omega) (by rw [Nat.pow_succ] at h; omega)
      omega
theorem bl_shift {y : Nat} (h0 : 0 < y) (h : y < 18446744073709551616) : ∃ s : Nat, (64 - (Lib.bitLen y : Int)) = s ∧ s ≤ 63 ∧ 9223372036854775808 ≤ y * 2 ^ s ∧ y * 2 ^ s < 18446744073709551616 := by
  obtain ⟨a, b, c⟩ := bl_spec 64 y h0 h
  have hb : Lib.bitLen y = Lib.bitLenAux 64 y := rfl
  rw [hb]
  generalize Lib.bitLenAux 64 y = n at *
  have hn : n ≠ 0 := by rintro rfl; omega
  refine ⟨64 - n, by omega, by omega, ?_, ?_⟩
  · have e : (2 : Nat) ^ 64 = 2 ^ n * 2 ^ (64 - n) := by rw [← Nat.pow_add]; congr 1; omega
    have h1 : 2 ^ n * 2 ^ (64 - n) ≤ 2 * y * 2 ^ (64 - n) := Nat.mul_le_mul_right _ a
    rw [← e, Nat.mul_assoc] at h1
    have : (2 : Nat) ^ 64 = 18446744073709551616 := rfl
    omega
  · have e : (2 : Nat) ^ 64 = 2 ^ n * 2 ^ (64 - n) := by rw [← Nat.pow_add]; congr 1; omega
    have h1 : y * 2 ^ (64 - n) < 2 ^ n * 2 ^ (64 - n) := Nat.mul_lt_mul_of_pos_right b (Nat.pos_of_ne_zero (by simp))
    rw [← e] at h1
    exact h1

set_option maxRecDepth 100000 in
set_option maxHeartbeats 2000000 in
theorem div64_zero (lo y : Nat) (w : World) (hlo : lo < 18446744073709551616) (hy : 0 < y) (hy' : y < 18446744073709551616) :
    Calls Try.prog 91 #[.int .u64 0, .int .u64 (lo : Int), .int .u64 (y : Int)] w fun e w' => e = .returned (.tuple #[.int .u64 ((lo / y : Nat) : Int), .int .u64 ((lo % y : Nat) : Int)]) ∧ Below w.heap.size w w' := by
  have q1 : ((y : Int) == 0) = false := by simp; omega
  have q2 : ¬ (y : Int) ≤ 0 := by omega
  go_enter Try.func91, Try.ntmps91
  go_wp2_with fail
  go_quiet (fail)
  go_wp2_with fail
  have e1 : IntKind.u64.wrap ((lo : Int) / (y : Int)) = ((lo / y : Nat) : Int) := by
    have : lo / y ≤ lo := Nat.div_le_self _ _
    rw [← Int.natCast_ediv, IntKind.wrap_u64]
    generalize lo / y = d at *
    omega
  go_ret2
  refine ⟨?_, below_drewN w nq⟩
  rw [e1]
  rfl

/-- What Div64 makes of its arguments: all are shifted until the divisor has 64 bits. -/
structure Norm (hi lo y s Y Z y1 y0 U u v q r : Nat) : Prop where
  eY : IntKind.u64.wrap ((y : Int) * 2 ^ s) = (Y : Int)
  eZ : IntKind.u64.wrap ((lo : Int) * 2 ^ s) = (Z : Int)
  ey1 : (Y : Int) / 4294967296 = (y1 : Int)
  ey0 : bits .and .u64 (Y : Int) 4294967295 = (y0 : Int)
  eU : bits .or .u64 (IntKind.u64.wrap ((hi : Int) * 2 ^ s)) ((lo : Int) / 2 ^ (64 - s)) = (U : Int)
  eu : (Z : Int) / 4294967296 = (u : Int)
  ev : bits .and .u64 (Z : Int) 4294967295 = (v : Int)
  eq : IntKind.u64.wrap ((U : Int) / (y1 : Int)) = (q : Int)
  er : IntKind.u64.wrap ((U : Int) - IntKind.u64.wrap ((q : Int) * (y1 : Int))) = (r : Int)
  dig : DigIn Y y1 y0 U u
  start : Dig Y y1 y0 U u q r
  hv : v < 4294967296
  quo : (hi * 18446744073709551616 + lo) / y = (U * 18446744073709551616 + (u * 4294967296 + v)) / Y
  rem : (hi * 18446744073709551616 + lo) % y * 2 ^ s = (U * 18446744073709551616 + (u * 4294967296 + v)) % Y
theorem u64_nat (n : Nat) : IntKind.u64.wrap (n : Int) = ((n % 18446744073709551616 : Nat) : Int) := by rw [IntKind.wrap_u64]; omega
theorem u64_nat_of {n : Nat} (h : n < 18446744073709551616) : IntKind.u64.wrap (n : Int) = (n : Int) := by rw [IntKind.wrap_u64]; omega
theorem quo_u64 {U y1 : Nat} (hU : U < 18446744073709551616) : IntKind.u64.wrap ((U : Int) / (y1 : Int)) = ((U / y1 : Nat) : Int) := by
  rw [← Int.natCast_ediv]
  exact u64_nat_of (Nat.lt_of_le_of_lt (Nat.div_le_self _ _) hU)
theorem rem_u64 {U y1 : Nat} (hU : U < 18446744073709551616) : IntKind.u64.wrap ((U : Int) - IntKind.u64.wrap (((U / y1 : Nat) : Int) * (y1 : Int))) = ((U % y1 : Nat) : Int) := by
  have h := Nat.div_add_mod U y1
  rw [← Int.natCast_mul, Nat.mul_comm]
  generalize y1 * (U / y1) = A at *
  rw [u64_nat_of (by omega), show (U : Int) - (A : Int) = ((U % y1 : Nat) : Int) by omega]
  exact u64_nat_of (by omega)
theorem next_u64 {Y y1 y0 U u : Nat} (h : DigIn Y y1 y0 U u) (hY : Y < 18446744073709551616) :
    IntKind.u64.wrap (IntKind.u64.wrap (IntKind.u64.wrap ((U : Int) * 4294967296) + (u : Int)) - IntKind.u64.wrap ((((U * 4294967296 + u) / Y : Nat) : Int) * (Y : Int))) = (((U * 4294967296 + u) % Y : Nat) : Int) := by
  have h1 := Nat.div_add_mod (U * 4294967296 + u) Y
  have h2 := Nat.mod_lt (U * 4294967296 + u) h.pos
  rw [← Int.natCast_mul, Nat.mul_comm ((U * 4294967296 + u) / Y)]
  generalize Y * ((U * 4294967296 + u) / Y) = A at *
  generalize (U * 4294967296 + u) % Y = B at *
  simp only [IntKind.wrap_u64]
  omega
theorem norm_of {hi lo y s : Nat} (hs : s ≤ 63) (h1 : 9223372036854775808 ≤ y * 2 ^ s) (h2 : y * 2 ^ s < 18446744073709551616) (hy : hi < y) (hlo : lo < 18446744073709551616) :
    ∃ Y Z y1 y0 U u v q r, Norm hi lo y s Y Z y1 y0 U u v q r := by
  have hK : 0 < 2 ^ s := Nat.pos_of_ne_zero (by simp)
  have hKL : 2 ^ s * 2 ^ (64 - s) = 18446744073709551616 := by rw [← Nat.pow_add, show s + (64 - s) = 64 by omega]
  have hL : 0 < 2 ^ (64 - s) := Nat.pos_of_ne_zero (by simp)
  have c1 : ((2 : Int) ^ s) = ((2 ^ s : Nat) : Int) := by rw [Int.natCast_pow]; rfl
  have c2 : ((2 : Int) ^ (64 - s)) = ((2 ^ (64 - s) : Nat) : Int) := by rw [Int.natCast_pow]; rfl
  have hlt : lo / 2 ^ (64 - s) < 2 ^ s := by rw [Nat.div_lt_iff_lt_mul hL, hKL]; exact hlo
  have hhi : hi * 2 ^ s + 2 ^ s ≤ y * 2 ^ s := by rw [← Nat.succ_mul]; exact Nat.mul_le_mul_right _ hy
  have hU : hi * 2 ^ s + lo / 2 ^ (64 - s) < y * 2 ^ s := by omega
  have hN : (hi * 18446744073709551616 + lo) * 2 ^ s = (hi * 2 ^ s + lo / 2 ^ (64 - s)) * 18446744073709551616 + lo * 2 ^ s % 18446744073709551616 := by
    have a := Nat.div_add_mod (lo * 2 ^ s) 18446744073709551616
    have b : lo * 2 ^ s / 18446744073709551616 = lo / 2 ^ (64 - s) := by
      rw [← hKL, Nat.mul_comm (2 ^ s), Nat.mul_div_mul_right _ _ hK]
    rw [b] at a
    rw [Nat.add_mul, Nat.add_mul]
    have e : hi * 18446744073709551616 * 2 ^ s = hi * 2 ^ s * 18446744073709551616 := by rw [Nat.mul_assoc, Nat.mul_assoc, Nat.mul_comm 18446744073709551616]
    rw [e]
    omega
  have hd := shifted_div (n := hi * 18446744073709551616 + lo) (y := y) hK
  have hor : bits .or .u64 (IntKind.u64.wrap ((hi : Int) * 2 ^ s)) ((lo : Int) / 2 ^ (64 - s)) = ((hi * 2 ^ s + lo / 2 ^ (64 - s) : Nat) : Int) := by
    rw [c1, c2, ← Int.natCast_mul, ← Int.natCast_ediv, u64_nat_of (by omega), u64_or_nat _ _ (by omega) (by omega)]
    congr 1
    rw [Nat.mul_comm hi]
    exact (Nat.two_pow_add_eq_or_of_lt hlt hi).symm
  have hdig : DigIn (y * 2 ^ s) (y * 2 ^ s / 4294967296) (y * 2 ^ s % 4294967296) (hi * 2 ^ s + lo / 2 ^ (64 - s)) (lo * 2 ^ s % 18446744073709551616 / 4294967296) :=
    ⟨by omega, by omega, by omega, by omega, hU, by omega⟩
  refine ⟨y * 2 ^ s, lo * 2 ^ s % 18446744073709551616, y * 2 ^ s / 4294967296, y * 2 ^ s % 4294967296, hi * 2 ^ s + lo / 2 ^ (64 - s), lo * 2 ^ s % 18446744073709551616 / 4294967296, lo * 2 ^ s % 18446744073709551616 % 4294967296, _, _,
    ⟨?_, ?_, by omega, Mul64.maskN _ h2, hor, by omega, Mul64.maskN _ (by omega), quo_u64 (by omega), rem_u64 (by omega), hdig, Dig.start hdig, by omega, ?_, ?_⟩⟩
  · rw [c1, ← Int.natCast_mul]; exact u64_nat_of h2
  · rw [c1, ← Int.natCast_mul]; exact u64_nat _
  · rw [← hd.1, hN]; congr 2; omega
  · rw [← hd.2, hN]; congr 2; omega

/-- What stands between both digits. -/
structure Second (U u v Y y1 y0 T U2 q2 r2 : Nat) : Prop where
  eU2 : IntKind.u64.wrap (IntKind.u64.wrap (IntKind.u64.wrap ((U : Int) * 4294967296) + (u : Int)) - IntKind.u64.wrap ((T : Int) * (Y : Int))) = (U2 : Int)
  eq2 : IntKind.u64.wrap ((U2 : Int) / (y1 : Int)) = (q2 : Int)
  er2 : IntKind.u64.wrap ((U2 : Int) - IntKind.u64.wrap ((q2 : Int) * (y1 : Int))) = (r2 : Int)
  dig : DigIn Y y1 y0 U2 v
  start : Dig Y y1 y0 U2 v q2 r2
  hT : T < 4294967296
  quo : (U * 18446744073709551616 + (u * 4294967296 + v)) / Y = T * 4294967296 + (U2 * 4294967296 + v) / Y
  rem : (U * 18446744073709551616 + (u * 4294967296 + v)) % Y = (U2 * 4294967296 + v) % Y
theorem second_of {U u v Y y1 y0 T : Nat} (h : DigIn Y y1 y0 U u) (hY : Y < 18446744073709551616) (hv : v < 4294967296) (hT : T = (U * 4294967296 + u) / Y) : ∃ U2 q2 r2, Second U u v Y y1 y0 T U2 q2 r2 := by
  have hd : DigIn Y y1 y0 ((U * 4294967296 + u) % Y) v := ⟨h.hy, h.h0, h.h1, h.h2, Nat.mod_lt _ h.pos, hv⟩
  have ht := two_digits (U := U) (u := u) (v := v) h.pos
  have hl := h.lt
  subst hT
  exact ⟨_, _, _, next_u64 h hY, quo_u64 (by have := hd.hU; omega), rem_u64 (by have := hd.hU; omega), hd, Dig.start hd, hl, ht.1, ht.2⟩
theorem last_of {hi lo y s Y Z y1 y0 U u v q r T U2 q2 r2 T2 : Nat} (g : Norm hi lo y s Y Z y1 y0 U u v q r) (h : Second U u v Y y1 y0 T U2 q2 r2) (hT2 : T2 = (U2 * 4294967296 + v) / Y) :
    T2 < 4294967296 ∧ ∃ R : Nat, IntKind.u64.wrap (IntKind.u64.wrap (IntKind.u64.wrap ((U2 : Int) * 4294967296) + (v : Int)) - IntKind.u64.wrap ((T2 : Int) * (Y : Int))) = (R : Int) ∧
      ((T : Int) * 4294967296 + (T2 : Int) = (((hi * 18446744073709551616 + lo) / y : Nat) : Int)) ∧ ((R : Int) / 2 ^ s = (((hi * 18446744073709551616 + lo) % y : Nat) : Int)) := by
  have hK : 0 < 2 ^ s := Nat.pos_of_ne_zero (by simp)
  have c1 : ((2 : Int) ^ s) = ((2 ^ s : Nat) : Int) := by rw [Int.natCast_pow]; rfl
  have h1 := g.dig
  have hl := h.dig.lt
  subst hT2
  refine ⟨hl, _, next_u64 h.dig (by have := h1.hy; have := h1.h0; have := h1.h2; omega), ?_, ?_⟩
  · rw [g.quo, h.quo]; omega
  · rw [← h.rem, ← g.rem, c1, ← Int.natCast_ediv, Nat.mul_div_cancel _ hK]

set_option maxRecDepth 100000 in
set_option maxHeartbeats 2000000 in
theorem div64_any (hi lo y : Nat) (w : World) (h0 : 0 < hi) (hlo : lo < 18446744073709551616) (hy : hi < y) (hy' : y < 18446744073709551616) :
    Calls Try.prog 91 #[.int .u64 (hi : Int), .int .u64 (lo : Int), .int .u64 (y : Int)] w fun e w' => e = .returned (.tuple #[.int .u64 (((hi * 18446744073709551616 + lo) / y : Nat) : Int), .int .u64 (((hi * 18446744073709551616 + lo) % y : Nat) : Int)]) ∧ Below w.heap.size w w' := by
  have q1 : ((y : Int) == 0) = false := by simp; omega
  have q2 : ¬ (y : Int) ≤ (hi : Int) := by omega
  have q3 : ((hi : Int) == 0) = false := by simp; omega
  obtain ⟨QQ, hQQ⟩ : ∃ QQ : Nat, QQ = (hi * 18446744073709551616 + lo) / y := ⟨_, rfl⟩
  obtain ⟨RR, hRR⟩ : ∃ RR : Nat, RR = (hi * 18446744073709551616 + lo) % y := ⟨_, rfl⟩
  have hQl : QQ < 18446744073709551616 := by
    rw [hQQ, Nat.div_lt_iff_lt_mul (by omega)]
    omega
  rw [← hQQ, ← hRR]
  have HQQ := Lib.hid hQQ
  have HRR := Lib.hid hRR
  clear hQQ hRR
  have hlz := fun w => Try.bits_LeadingZeros64 (y : Int) w (by omega) (by omega)
  obtain ⟨s, hs, hs63, hb1, hb2⟩ := bl_shift (show 0 < y by omega) hy'
  rw [show ((y : Int)).toNat = y by omega, hs] at hlz
  obtain ⟨Y, Z, y1, y0, U, u, v, q, r, g⟩ := norm_of hs63 hb1 hb2 hy hlo
  have HLZ := Lib.hid hlz
  have G := Lib.hid g
  have eY := g.eY
  have eZ := g.eZ
  have ey1 := g.ey1
  have ey0 := g.ey0
  have eU := g.eU
  have eu := g.eu
  have ev := g.ev
  have eq := g.eq
  have er := g.er
  have hy1 : ¬ (y1 : Int) = 0 := by have := g.dig.h1; omega
  clear hlz hs g hb1 hb2
  go_enter Try.func91, Try.ntmps91
  go_wp2_with fail
  refine (HLZ.out _).mono ?_
  rintro e w1 ⟨he, hw⟩
  subst he hw
  go_wp2_with fail
  clear eY eZ ey0 eU eu ev eq er q1 q2 q3
  go_loop [15, 16] (fun q r => ∃ Q R : Nat, q = .int .u64 (Q : Int) ∧ r = .int .u64 (R : Int) ∧ Dig Y y1 y0 U u Q R) (fun q _ => (intOf q).toNat)
  case atStart => exact ⟨q, r, rfl, rfl, G.out.start⟩
  case round =>
    obtain ⟨Q, R, rfl, rfl, hd⟩ := hrel
    have hdr := hd.hr
    have hdq := hd.hq
    have hdh1 := (G.out.dig).h1
    have hdh2 := (G.out.dig).h2
    have hdu := (G.out.dig).hu
    by_cases hQ1 : Q < 4294967296
    · have tq1 : decide ((4294967296 : Int) ≤ (Q : Int)) = false := decide_eq_false (by omega)
      have hpb := hd.bound (G.out.dig) hQ1
      obtain ⟨P, hP⟩ : ∃ P : Nat, P = Q * y0 := ⟨_, rfl⟩
      have Pi : (Q : Int) * (y0 : Int) = (P : Int) := by rw [hP]; exact (Int.natCast_mul _ _).symm
      rw [← hP] at hpb
      by_cases hc1 : P ≤ 4294967296 * R + u
      · have tp1 : decide (4294967296 * (R : Int) + (u : Int) < (P : Int)) = false := decide_eq_false (by omega)
        have hT1 := hd.done (G.out.dig) (by rw [← hP]; exact hc1)
        clear hd hP hc1
        obtain ⟨U2, q2, r2, s2⟩ := second_of G.out.dig (by have := G.out.dig.hy; have := G.out.dig.h0; have := G.out.dig.h2; omega) G.out.hv hT1
        have S2 := Lib.hid s2
        have eU2 := s2.eU2
        have eq2 := s2.eq2
        have er2 := s2.er2
        clear s2 hT1
        go_wp2_with fail
        clear eU2 eq2 er2
        go_loop [18, 16] (fun q r => ∃ Q R : Nat, q = .int .u64 (Q : Int) ∧ r = .int .u64 (R : Int) ∧ Dig Y y1 y0 U2 v Q R) (fun q _ => (intOf q).toNat)
        case atStart => exact ⟨q2, r2, rfl, rfl, S2.out.start⟩
        case round =>
          obtain ⟨Q2, R2, rfl, rfl, d2⟩ := hrel
          have d2r := d2.hr
          have d2q := d2.hq
          have d2h1 := (S2.out.dig).h1
          have d2h2 := (S2.out.dig).h2
          have d2u := (S2.out.dig).hu
          by_cases hQ2 : Q2 < 4294967296
          · have tq2 : decide ((4294967296 : Int) ≤ (Q2 : Int)) = false := decide_eq_false (by omega)
            have hpb := d2.bound (S2.out.dig) hQ2
            obtain ⟨P2, hP⟩ : ∃ P : Nat, P = Q2 * y0 := ⟨_, rfl⟩
            have P2i : (Q2 : Int) * (y0 : Int) = (P2 : Int) := by rw [hP]; exact (Int.natCast_mul _ _).symm
            rw [← hP] at hpb
            by_cases hc2 : P2 ≤ 4294967296 * R2 + v
            · have tp2 : decide (4294967296 * (R2 : Int) + (v : Int) < (P2 : Int)) = false := decide_eq_false (by omega)
              have hT2 := d2.done (S2.out.dig) (by rw [← hP]; exact hc2)
              clear d2 hP hc2
              obtain ⟨hl2, R3, e1, e2, e3⟩ := last_of G.out S2.out hT2
              rw [← HQQ.out] at e2
              rw [← HRR.out] at e3
              have hl1 := S2.out.hT
              clear hT2
              go_wp2_with fail
              go_ret2
              exact ⟨rfl, Below.refl _ _⟩
            · have tp2 : decide (4294967296 * (R2 : Int) + (v : Int) < (P2 : Int)) = true := decide_eq_true (by omega)
              have hor : 4294967296 ≤ Q2 ∨ ¬ Q2 * y0 ≤ 4294967296 * R2 + v := .inr (by rw [← hP]; exact hc2)
              have hpos := (d2.next (S2.out.dig) hor).1
              obtain ⟨T2, eT2n⟩ : ∃ T : Nat, T = Q2 - 1 := ⟨_, rfl⟩
              have eT2 : (Q2 : Int) - 1 = (T2 : Int) := by omega
              obtain ⟨R2', eR2n⟩ : ∃ T : Nat, T = R2 + y1 := ⟨_, rfl⟩
              have eR2 : (R2 : Int) + (y1 : Int) = (R2' : Int) := by omega
              by_cases hr2 : R2' < 4294967296
              · have tr2 : decide ((4294967296 : Int) ≤ (R2' : Int)) = false := decide_eq_false (by omega)
                have hgo := d2.go (S2.out.dig) hor (by rw [← eR2n]; exact hr2)
                rw [← eT2n, ← eR2n] at hgo
                have HGO := Lib.hid hgo
                clear hgo d2 hP hor hc2 eT2n eR2n
                go_wp2_with fail
                first
                  | exact ⟨⟨T2, R2', rfl, rfl, HGO.out⟩, by simp [intOf]; omega⟩
                  | (go_roundw
                     case rel => exact ⟨T2, R2', rfl, rfl, HGO.out⟩
                     case measure => simp [intOf]; omega)
                  | fail
              · have tr2 : decide ((4294967296 : Int) ≤ (R2' : Int)) = true := decide_eq_true (by omega)
                have hT2 := d2.stop (S2.out.dig) hor (by rw [← eR2n]; exact hr2)
                rw [← eT2n] at hT2
                clear d2 hP hor hc2 eT2n eR2n
                obtain ⟨hl2, R3, e1, e2, e3⟩ := last_of G.out S2.out hT2
                rw [← HQQ.out] at e2
                rw [← HRR.out] at e3
                have hl1 := S2.out.hT
                clear hT2
                go_wp2_with fail
                go_ret2
                exact ⟨rfl, Below.refl _ _⟩
          · have tq2 : decide ((4294967296 : Int) ≤ (Q2 : Int)) = true := decide_eq_true (by omega)
            have hor : 4294967296 ≤ Q2 ∨ ¬ Q2 * y0 ≤ 4294967296 * R2 + v := .inl (by omega)
            have hpos := (d2.next (S2.out.dig) hor).1
            obtain ⟨T2, eT2n⟩ : ∃ T : Nat, T = Q2 - 1 := ⟨_, rfl⟩
            have eT2 : (Q2 : Int) - 1 = (T2 : Int) := by omega
            obtain ⟨R2', eR2n⟩ : ∃ T : Nat, T = R2 + y1 := ⟨_, rfl⟩
            have eR2 : (R2 : Int) + (y1 : Int) = (R2' : Int) := by omega
            by_cases hr2 : R2' < 4294967296
            · have tr2 : decide ((4294967296 : Int) ≤ (R2' : Int)) = false := decide_eq_false (by omega)
              have hgo := d2.go (S2.out.dig) hor (by rw [← eR2n]; exact hr2)
              rw [← eT2n, ← eR2n] at hgo
              have HGO := Lib.hid hgo
              clear hgo d2 hor eT2n eR2n
              go_wp2_with fail
              first
                | exact ⟨⟨T2, R2', rfl, rfl, HGO.out⟩, by simp [intOf]; omega⟩
                | (go_roundw
                   case rel => exact ⟨T2, R2', rfl, rfl, HGO.out⟩
                   case measure => simp [intOf]; omega)
                | fail
            · have tr2 : decide ((4294967296 : Int) ≤ (R2' : Int)) = true := decide_eq_true (by omega)
              have hT2 := d2.stop (S2.out.dig) hor (by rw [← eR2n]; exact hr2)
              rw [← eT2n] at hT2
              clear d2 hor eT2n eR2n
              obtain ⟨hl2, R3, e1, e2, e3⟩ := last_of G.out S2.out hT2
              rw [← HQQ.out] at e2
              rw [← HRR.out] at e3
              have hl1 := S2.out.hT
              clear hT2
              go_wp2_with fail
              go_ret2
              exact ⟨rfl, Below.refl _ _⟩
      · have tp1 : decide (4294967296 * (R : Int) + (u : Int) < (P : Int)) = true := decide_eq_true (by omega)
        have hor : 4294967296 ≤ Q ∨ ¬ Q * y0 ≤ 4294967296 * R + u := .inr (by rw [← hP]; exact hc1)
        have hpos := (hd.next (G.out.dig) hor).1
        obtain ⟨T1, eT1n⟩ : ∃ T : Nat, T = Q - 1 := ⟨_, rfl⟩
        have eT1 : (Q : Int) - 1 = (T1 : Int) := by omega
        obtain ⟨R1', eR1n⟩ : ∃ T : Nat, T = R + y1 := ⟨_, rfl⟩
        have eR1 : (R : Int) + (y1 : Int) = (R1' : Int) := by omega
        by_cases hr1 : R1' < 4294967296
        · have tr1 : decide ((4294967296 : Int) ≤ (R1' : Int)) = false := decide_eq_false (by omega)
          have hgo := hd.go (G.out.dig) hor (by rw [← eR1n]; exact hr1)
          rw [← eT1n, ← eR1n] at hgo
          have HGO := Lib.hid hgo
          clear hgo hd hP hor hc1 eT1n eR1n
          go_wp2_with fail
          first
            | exact ⟨⟨T1, R1', rfl, rfl, HGO.out⟩, by simp [intOf]; omega⟩
            | (go_roundw
               case rel => exact ⟨T1, R1', rfl, rfl, HGO.out⟩
               case measure => simp [intOf]; omega)
            | fail
        · have tr1 : decide ((4294967296 : Int) ≤ (R1' : Int)) = true := decide_eq_true (by omega)
          have hT1 := hd.stop (G.out.dig) hor (by rw [← eR1n]; exact hr1)
          rw [← eT1n] at hT1
          clear hd hP hor hc1 eT1n eR1n
          obtain ⟨U2, q2, r2, s2⟩ := second_of G.out.dig (by have := G.out.dig.hy; have := G.out.dig.h0; have := G.out.dig.h2; omega) G.out.hv hT1
          have S2 := Lib.hid s2
          have eU2 := s2.eU2
          have eq2 := s2.eq2
          have er2 := s2.er2
          clear s2 hT1
          go_wp2_with fail
          clear eU2 eq2 er2
          go_loop [18, 16] (fun q r => ∃ Q R : Nat, q = .int .u64 (Q : Int) ∧ r = .int .u64 (R : Int) ∧ Dig Y y1 y0 U2 v Q R) (fun q _ => (intOf q).toNat)
          case atStart => exact ⟨q2, r2, rfl, rfl, S2.out.start⟩
          case round =>
            obtain ⟨Q2, R2, rfl, rfl, d2⟩ := hrel
            have d2r := d2.hr
            have d2q := d2.hq
            have d2h1 := (S2.out.dig).h1
            have d2h2 := (S2.out.dig).h2
            have d2u := (S2.out.dig).hu
            by_cases hQ2 : Q2 < 4294967296
            · have tq2 : decide ((4294967296 : Int) ≤ (Q2 : Int)) = false := decide_eq_false (by omega)
              have hpb := d2.bound (S2.out.dig) hQ2
              obtain ⟨P2, hP⟩ : ∃ P : Nat, P = Q2 * y0 := ⟨_, rfl⟩
              have P2i : (Q2 : Int) * (y0 : Int) = (P2 : Int) := by rw [hP]; exact (Int.natCast_mul _ _).symm
              rw [← hP] at hpb
              by_cases hc2 : P2 ≤ 4294967296 * R2 + v
              · have tp2 : decide (4294967296 * (R2 : Int) + (v : Int) < (P2 : Int)) = false := decide_eq_false (by omega)
                have hT2 := d2.done (S2.out.dig) (by rw [← hP]; exact hc2)
                clear d2 hP hc2
                obtain ⟨hl2, R3, e1, e2, e3⟩ := last_of G.out S2.out hT2
                rw [← HQQ.out] at e2
                rw [← HRR.out] at e3
                have hl1 := S2.out.hT
                clear hT2
                go_wp2_with fail
                go_ret2
                exact ⟨rfl, Below.refl _ _⟩
              · have tp2 : decide (4294967296 * (R2 : Int) + (v : Int) < (P2 : Int)) = true := decide_eq_true (by omega)
                have hor : 4294967296 ≤ Q2 ∨ ¬ Q2 * y0 ≤ 4294967296 * R2 + v := .inr (by rw [← hP]; exact hc2)
                have hpos := (d2.next (S2.out.dig) hor).1
                obtain ⟨T2, eT2n⟩ : ∃ T : Nat, T = Q2 - 1 := ⟨_, rfl⟩
                have eT2 : (Q2 : Int) - 1 = (T2 : Int) := by omega
                obtain ⟨R2', eR2n⟩ : ∃ T : Nat, T = R2 + y1 := ⟨_, rfl⟩
                have eR2 : (R2 : Int) + (y1 : Int) = (R2' : Int) := by omega
                by_cases hr2 : R2' < 4294967296
                · have tr2 : decide ((4294967296 : Int) ≤ (R2' : Int)) = false := decide_eq_false (by omega)
                  have hgo := d2.go (S2.out.dig) hor (by rw [← eR2n]; exact hr2)
                  rw [← eT2n, ← eR2n] at hgo
                  have HGO := Lib.hid hgo
                  clear hgo d2 hP hor hc2 eT2n eR2n
                  go_wp2_with fail
                  first
                    | exact ⟨⟨T2, R2', rfl, rfl, HGO.out⟩, by simp [intOf]; omega⟩
                    | (go_roundw
                       case rel => exact ⟨T2, R2', rfl, rfl, HGO.out⟩
                       case measure => simp [intOf]; omega)
                    | fail
                · have tr2 : decide ((4294967296 : Int) ≤ (R2' : Int)) = true := decide_eq_true (by omega)
                  have hT2 := d2.stop (S2.out.dig) hor (by rw [← eR2n]; exact hr2)
                  rw [← eT2n] at hT2
                  clear d2 hP hor hc2 eT2n eR2n
                  obtain ⟨hl2, R3, e1, e2, e3⟩ := last_of G.out S2.out hT2
                  rw [← HQQ.out] at e2
                  rw [← HRR.out] at e3
                  have hl1 := S2.out.hT
                  clear hT2
                  go_wp2_with fail
                  go_ret2
                  exact ⟨rfl, Below.refl _ _⟩
            · have tq2 : decide ((4294967296 : Int) ≤ (Q2 : Int)) = true := decide_eq_true (by omega)
              have hor : 4294967296 ≤ Q2 ∨ ¬ Q2 * y0 ≤ 4294967296 * R2 + v := .inl (by omega)
              have hpos := (d2.next (S2.out.dig) hor).1
              obtain ⟨T2, eT2n⟩ : ∃ T : Nat, T = Q2 - 1 := ⟨_, rfl⟩
              have eT2 : (Q2 : Int) - 1 = (T2 : Int) := by omega
              obtain ⟨R2', eR2n⟩ : ∃ T : Nat, T = R2 + y1 := ⟨_, rfl⟩
              have eR2 : (R2 : Int) + (y1 : Int) = (R2' : Int) := by omega
              by_cases hr2 : R2' < 4294967296
              · have tr2 : decide ((4294967296 : Int) ≤ (R2' : Int)) = false := decide_eq_false (by omega)
                have hgo := d2.go (S2.out.dig) hor (by rw [← eR2n]; exact hr2)
                rw [← eT2n, ← eR2n] at hgo
                have HGO := Lib.hid hgo
                clear hgo d2 hor eT2n eR2n
                go_wp2_with fail
                first
                  | exact ⟨⟨T2, R2', rfl, rfl, HGO.out⟩, by simp [intOf]; omega⟩
                  | (go_roundw
                     case rel => exact ⟨T2, R2', rfl, rfl, HGO.out⟩
                     case measure => simp [intOf]; omega)
                  | fail
              · have tr2 : decide ((4294967296 : Int) ≤ (R2' : Int)) = true := decide_eq_true (by omega)
                have hT2 := d2.stop (S2.out.dig) hor (by rw [← eR2n]; exact hr2)
                rw [← eT2n] at hT2
                clear d2 hor eT2n eR2n
                obtain ⟨hl2, R3, e1, e2, e3⟩ := last_of G.out S2.out hT2
                rw [← HQQ.out] at e2
                rw [← HRR.out] at e3
                have hl1 := S2.out.hT
                clear hT2
                go_wp2_with fail
                go_ret2
                exact ⟨rfl, Below.refl _ _⟩
    · have tq1 : decide ((4294967296 : Int) ≤ (Q : Int)) = true := decide_eq_true (by omega)
      have hor : 4294967296 ≤ Q ∨ ¬ Q * y0 ≤ 4294967296 * R + u := .inl (by omega)
      have hpos := (hd.next (G.out.dig) hor).1
      obtain ⟨T1, eT1n⟩ : ∃ T : Nat, T = Q - 1 := ⟨_, rfl⟩
      have eT1 : (Q : Int) - 1 = (T1 : Int) := by omega
      obtain ⟨R1', eR1n⟩ : ∃ T : Nat, T = R + y1 := ⟨_, rfl⟩
      have eR1 : (R : Int) + (y1 : Int) = (R1' : Int) := by omega
      by_cases hr1 : R1' < 4294967296
      · have tr1 : decide ((4294967296 : Int) ≤ (R1' : Int)) = false := decide_eq_false (by omega)
        have hgo := hd.go (G.out.dig) hor (by rw [← eR1n]; exact hr1)
        rw [← eT1n, ← eR1n] at hgo
        have HGO := Lib.hid hgo
        clear hgo hd hor eT1n eR1n
        go_wp2_with fail
        first
          | exact ⟨⟨T1, R1', rfl, rfl, HGO.out⟩, by simp [intOf]; omega⟩
          | (go_roundw
             case rel => exact ⟨T1, R1', rfl, rfl, HGO.out⟩
             case measure => simp [intOf]; omega)
          | fail
      · have tr1 : decide ((4294967296 : Int) ≤ (R1' : Int)) = true := decide_eq_true (by omega)
        have hT1 := hd.stop (G.out.dig) hor (by rw [← eR1n]; exact hr1)
        rw [← eT1n] at hT1
        clear hd hor eT1n eR1n
        obtain ⟨U2, q2, r2, s2⟩ := second_of G.out.dig (by have := G.out.dig.hy; have := G.out.dig.h0; have := G.out.dig.h2; omega) G.out.hv hT1
        have S2 := Lib.hid s2
        have eU2 := s2.eU2
        have eq2 := s2.eq2
        have er2 := s2.er2
        clear s2 hT1
        go_wp2_with fail
        clear eU2 eq2 er2
        go_loop [18, 16] (fun q r => ∃ Q R : Nat, q = .int .u64 (Q : Int) ∧ r = .int .u64 (R : Int) ∧ Dig Y y1 y0 U2 v Q R) (fun q _ => (intOf q).toNat)
        case atStart => exact ⟨q2, r2, rfl, rfl, S2.out.start⟩
        case round =>
          obtain ⟨Q2, R2, rfl, rfl, d2⟩ := hrel
          have d2r := d2.hr
          have d2q := d2.hq
          have d2h1 := (S2.out.dig).h1
          have d2h2 := (S2.out.dig).h2
          have d2u := (S2.out.dig).hu
          by_cases hQ2 : Q2 < 4294967296
          · have tq2 : decide ((4294967296 : Int) ≤ (Q2 : Int)) = false := decide_eq_false (by omega)
            have hpb := d2.bound (S2.out.dig) hQ2
            obtain ⟨P2, hP⟩ : ∃ P : Nat, P = Q2 * y0 := ⟨_, rfl⟩
            have P2i : (Q2 : Int) * (y0 : Int) = (P2 : Int) := by rw [hP]; exact (Int.natCast_mul _ _).symm
            rw [← hP] at hpb
            by_cases hc2 : P2 ≤ 4294967296 * R2 + v
            · have tp2 : decide (4294967296 * (R2 : Int) + (v : Int) < (P2 : Int)) = false := decide_eq_false (by omega)
              have hT2 := d2.done (S2.out.dig) (by rw [← hP]; exact hc2)
              clear d2 hP hc2
              obtain ⟨hl2, R3, e1, e2, e3⟩ := last_of G.out S2.out hT2
              rw [← HQQ.out] at e2
              rw [← HRR.out] at e3
              have hl1 := S2.out.hT
              clear hT2
              go_wp2_with fail
              go_ret2
              exact ⟨rfl, Below.refl _ _⟩
            · have tp2 : decide (4294967296 * (R2 : Int) + (v : Int) < (P2 : Int)) = true := decide_eq_true (by omega)
              have hor : 4294967296 ≤ Q2 ∨ ¬ Q2 * y0 ≤ 4294967296 * R2 + v := .inr (by rw [← hP]; exact hc2)
              have hpos := (d2.next (S2.out.dig) hor).1
              obtain ⟨T2, eT2n⟩ : ∃ T : Nat, T = Q2 - 1 := ⟨_, rfl⟩
              have eT2 : (Q2 : Int) - 1 = (T2 : Int) := by omega
              obtain ⟨R2', eR2n⟩ : ∃ T : Nat, T = R2 + y1 := ⟨_, rfl⟩
              have eR2 : (R2 : Int) + (y1 : Int) = (R2' : Int) := by omega
              by_cases hr2 : R2' < 4294967296
              · have tr2 : decide ((4294967296 : Int) ≤ (R2' : Int)) = false := decide_eq_false (by omega)
                have hgo := d2.go (S2.out.dig) hor (by rw [← eR2n]; exact hr2)
                rw [← eT2n, ← eR2n] at hgo
                have HGO := Lib.hid hgo
                clear hgo d2 hP hor hc2 eT2n eR2n
                go_wp2_with fail
                first
                  | exact ⟨⟨T2, R2', rfl, rfl, HGO.out⟩, by simp [intOf]; omega⟩
                  | (go_roundw
                     case rel => exact ⟨T2, R2', rfl, rfl, HGO.out⟩
                     case measure => simp [intOf]; omega)
                  | fail
              · have tr2 : decide ((4294967296 : Int) ≤ (R2' : Int)) = true := decide_eq_true (by omega)
                have hT2 := d2.stop (S2.out.dig) hor (by rw [← eR2n]; exact hr2)
                rw [← eT2n] at hT2
                clear d2 hP hor hc2 eT2n eR2n
                obtain ⟨hl2, R3, e1, e2, e3⟩ := last_of G.out S2.out hT2
                rw [← HQQ.out] at e2
                rw [← HRR.out] at e3
                have hl1 := S2.out.hT
                clear hT2
                go_wp2_with fail
                go_ret2
                exact ⟨rfl, Below.refl _ _⟩
          · have tq2 : decide ((4294967296 : Int) ≤ (Q2 : Int)) = true := decide_eq_true (by omega)
            have hor : 4294967296 ≤ Q2 ∨ ¬ Q2 * y0 ≤ 4294967296 * R2 + v := .inl (by omega)
            have hpos := (d2.next (S2.out.dig) hor).1
            obtain ⟨T2, eT2n⟩ : ∃ T : Nat, T = Q2 - 1 := ⟨_, rfl⟩
            have eT2 : (Q2 : Int) - 1 = (T2 : Int) := by omega
            obtain ⟨R2', eR2n⟩ : ∃ T : Nat, T = R2 + y1 := ⟨_, rfl⟩
            have eR2 : (R2 : Int) + (y1 : Int) = (R2' : Int) := by omega
            by_cases hr2 : R2' < 4294967296
            · have tr2 : decide ((4294967296 : Int) ≤ (R2' : Int)) = false := decide_eq_false (by omega)
              have hgo := d2.go (S2.out.dig) hor (by rw [← eR2n]; exact hr2)
              rw [← eT2n, ← eR2n] at hgo
              have HGO := Lib.hid hgo
              clear hgo d2 hor eT2n eR2n
              go_wp2_with fail
              first
                | exact ⟨⟨T2, R2', rfl, rfl, HGO.out⟩, by simp [intOf]; omega⟩
                | (go_roundw
                   case rel => exact ⟨T2, R2', rfl, rfl, HGO.out⟩
                   case measure => simp [intOf]; omega)
                | fail
            · have tr2 : decide ((4294967296 : Int) ≤ (R2' : Int)) = true := decide_eq_true (by omega)
              have hT2 := d2.stop (S2.out.dig) hor (by rw [← eR2n]; exact hr2)
              rw [← eT2n] at hT2
              clear d2 hor eT2n eR2n
              obtain ⟨hl2, R3, e1, e2, e3⟩ := last_of G.out S2.out hT2
              rw [← HQQ.out] at e2
              rw [← HRR.out] at e3
              have hl1 := S2.out.hT
              clear hT2
              go_wp2_with fail
              go_ret2
              exact ⟨rfl, Below.refl _ _⟩
end Go.Proofs.Ytmmgbofhbnflkaa
