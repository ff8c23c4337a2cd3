import Derived.Test.YtdncfignegagjaaDoorR6
import Derived.Test.YtdncfignegagjaaDoorM2
namespace Go.Proofs.YtdncfignegagjaaDoor
open Go.RowKit

theorem itoa_big (n : Nat) (h : 10 ≤ n) : Lib.itoa (n : Int) = Lib.itoa ((n / 10 : Nat) : Int) ++ Lib.itoa ((n % 10 : Nat) : Int) := by
  unfold Lib.itoa
  rw [if_neg (by omega), if_neg (by omega), if_neg (by omega)]
  simp only [Int.toNat_natCast]
  rw [Lib.decDigits, dif_neg (by omega), Lib.decDigits_one (i := n % 10) (by omega)]
theorem itoa_minus (n : Nat) (h : 1 ≤ n) : Lib.itoa (-(n : Int)) = 45 :: Lib.itoa (n : Int) := by
  unfold Lib.itoa
  rw [if_pos (by omega), if_neg (by omega)]
  simp

theorem itoa_length_minus (m : Nat) (h : (m : Int) ≤ 9223372036854775808) : (Lib.itoa (-(m : Int))).length ≤ 21 := Lib.itoa_length_le _ (by omega) (by omega)
theorem dig_conv (d : Nat) (w : World) : (convert 59 9 (.slice (some ⟨w.heap.size, 0, none⟩) 1 1)).run Tryd.prog (w.alloc (.cells #[.int .u8 (48 + (d : Int))] 5)) = .ok (.string ⟨#[UInt8.ofNat (48 + d)]⟩) (w.alloc (.cells #[.int .u8 (48 + (d : Int))] 5)) := by
  have := run_convert_bytes_arg (P := Tryd.prog) (w.alloc (.cells #[.int .u8 (48 + (d : Int))] 5)) 59 5 Tryd.underlying59 Tryd.underlying5 w.heap.size 0 1 1 [48 + (d : Int)] rfl (fun i hi => by
    obtain rfl : i = 0 := by omega
    simp) 9 Tryd.underlying9
  rw [this]
  have e : (48 + (d : Int)).toNat = 48 + d := by omega
  simp [strOfNums, e]

theorem str_eq {a b : ByteArray} (h : a.data.toList = b.data.toList) : a = b := Go.WideShapes.bytes_inj h
set_option maxRecDepth 100000 in
set_option maxHeartbeats 1000000 in
theorem rdigits_one (d : Nat) (hd : d < 10) (w : World) :
    Calls Tryd.prog 21 #[.int .i64 d] w fun e w' => e = .returned (.string ⟨(Lib.itoa d).toArray⟩) ∧ Below w.heap.size w w' := by
  have hconv := dig_conv d w
  have hf := Lib.hid (itoa_one d hd)
  have h0 : (0 : Int) ≤ (d : Int) := Int.natCast_nonneg _
  have h1 : (d : Int) < 10 := by omega
  go_enter Tryd.func21, Tryd.ntmps21
  go_wp2_with fail
  go_ret
  exact ⟨ret_str (by rw [hf.out]; simp), (Below.refl _ _).alloc (Nat.le_refl _) _⟩

set_option maxHeartbeats 1000000 in
theorem rdigits_nat : ∀ (k n : Nat), n ≤ k → (n : Int) ≤ 9223372036854775807 → ∀ w : World,
    Calls Tryd.prog 21 #[.int .i64 n] w fun e w' => e = .returned (.string ⟨(Lib.itoa n).toArray⟩) ∧ Below w.heap.size w w' := by
  intro k
  induction k with
  | zero => intro n hk hn w; exact rdigits_one n (by omega) w
  | succ k ih =>
    intro n hk hn w
    by_cases h10 : n < 10
    · exact rdigits_one n h10 w
    have hf := Lib.hid (itoa_big n (by omega))
    have c1 := Lib.hid (fun w => ih (n / 10) (by omega) (by omega) w)
    have c2 := Lib.hid (fun w => rdigits_one (n % 10) (by omega) w)
    have e1 : ((n : Int)) / 10 = ((n / 10 : Nat) : Int) := by omega
    have e2 : ((n : Int)) % 10 = ((n % 10 : Nat) : Int) := by omega
    have h0 : (0 : Int) ≤ (n : Int) := Int.natCast_nonneg _
    have h1 : ¬ (n : Int) < 10 := by omega
    have l1 := Lib.itoa_length_le ((n / 10 : Nat) : Int) (by omega) (by omega)
    have l2 := Lib.itoa_length_le ((n % 10 : Nat) : Int) (by omega) (by omega)
    clear ih
    generalize n / 10 = a at *
    generalize n % 10 = b at *
    go_enter Tryd.func21, Tryd.ntmps21
    go_wp2_with fail
    refine (c1.out _).mono ?_
    rintro e w1 ⟨rfl, hb1⟩
    go_wp2_with fail
    refine (c2.out _).mono ?_
    rintro e w2 ⟨rfl, hb2⟩
    go_wp2_with fail
    go_ret
    exact ⟨ret_str (str_eq (by rw [hf.out, bapp])), hb1.trans (hb2.mono hb1.size)⟩

set_option maxRecDepth 100000 in
set_option maxHeartbeats 1000000 in
theorem rdigits_minus : ∀ (k m : Nat), m ≤ k → 1 ≤ m → (m : Int) ≤ 9223372036854775808 → ∀ w : World,
    Calls Tryd.prog 21 #[.int .i64 (-(m : Int))] w fun e w' => e = .returned (.string ⟨(Lib.itoa (-(m : Int))).toArray⟩) ∧ Below w.heap.size w w' := by
  intro k
  induction k with
  | zero => intro m hk h1 hn w; omega
  | succ k ih =>
    intro m hk h1 hn w
    have hmin := Lib.hid (itoa_minus m h1)
    by_cases h10 : m < 10
    · have c1 := Lib.hid (fun w => rdigits_one m (by omega) w)
      have q1 : (-(m : Int)) < 0 := by omega
      have q2 : (-10 : Int) < -(m : Int) := by omega
      have q3 : (m : Int) < 10 := by omega
      have l2 := Lib.itoa_length_le ((m : Nat) : Int) (by omega) (by omega)
      clear ih
      go_enter Tryd.func21, Tryd.ntmps21
      go_wp2_with fail
      refine (c1.out _).mono ?_
      rintro e w1 ⟨rfl, hb1⟩
      go_wp2_with fail
      go_ret
      exact ⟨ret_str (str_eq (by rw [hmin.out, bapp]; rfl)), hb1⟩
    · have hf := Lib.hid (itoa_big m (by omega))
      have hmin2 := Lib.hid (itoa_minus (m / 10) (by omega))
      have c1 := Lib.hid (fun w => ih (m / 10) (by omega) (by omega) (by omega) w)
      have c2 := Lib.hid (fun w => rdigits_one (m % 10) (by omega) w)
      have e1 : (-(m : Int)).tdiv 10 = -((m / 10 : Nat) : Int) := by rw [Int.neg_tdiv, Int.tdiv_eq_ediv_of_nonneg (by omega)]; omega
      have e2 : (-(m : Int)).tmod 10 = -((m % 10 : Nat) : Int) := by rw [Int.neg_tmod, Int.tmod_eq_emod_of_nonneg (by omega)]; omega
      have q1 : (-(m : Int)) < 0 := by omega
      have q2 : ¬ (-10 : Int) < -(m : Int) := by omega
      have b1 : ((m / 10 : Nat) : Int) ≤ 922337203685477580 := by omega
      have b2 : ((m % 10 : Nat) : Int) < 10 := by omega
      have l1 := itoa_length_minus (m / 10) (by omega)
      have l2 := Lib.itoa_length_le ((m % 10 : Nat) : Int) (by omega) (by omega)
      clear ih
      generalize m / 10 = a at *
      generalize m % 10 = b at *
      go_enter Tryd.func21, Tryd.ntmps21
      go_wp2_with fail
      refine (c1.out _).mono ?_
      rintro e w1 ⟨rfl, hb1⟩
      go_wp2_with fail
      refine (c2.out _).mono ?_
      rintro e w2 ⟨rfl, hb2⟩
      go_wp2_with fail
      go_ret
      exact ⟨ret_str (str_eq (by rw [hmin.out, hf.out, bapp]; simp only []; rw [hmin2.out]; rfl)), hb1.trans (hb2.mono hb1.size)⟩
theorem rdigits_any (n : Int) (h0 : -9223372036854775808 ≤ n) (h1 : n ≤ 9223372036854775807) (w : World) :
    Calls Tryd.prog 21 #[.int .i64 n] w fun e w' => e = .returned (.string ⟨(Lib.itoa n).toArray⟩) ∧ Below w.heap.size w w' := by
  by_cases hn : n < 0
  · obtain ⟨m, rfl⟩ : ∃ m : Nat, n = -(m : Int) := ⟨n.natAbs, by omega⟩
    exact rdigits_minus m m (Nat.le_refl _) (by omega) (by omega) w
  · obtain ⟨m, rfl⟩ : ∃ m : Nat, n = (m : Int) := ⟨n.toNat, by omega⟩
    exact rdigits_nat m m (Nat.le_refl _) (by omega) w
end Go.Proofs.YtdncfignegagjaaDoor
