import Derived.Test.YtlmcafcebidliaaDoorKA1
import Derived.Test.YtlmcafcebidliaaDoorRW0
import Derived.Test.YtlmcafcebidliaaDoorShelfB
import Derived.Laws.Externs
namespace Go.Proofs.YtlmcafcebidliaaDoor
open Go.RowKit

/-- math/bits.Add64 without a carry coming in. -/
theorem add64_run (x y : Nat) (w : World) : (callFunc 108 #[.int .u64 (x : Int), .int .u64 (y : Int), .int .u64 0]).run Tryd.prog w =
    .ok (.value (.tuple #[.int .u64 (((x + y) % 18446744073709551616 : Nat) : Int), .int .u64 (((x + y) / 18446744073709551616 : Nat) : Int)])) w := by
  rw [run_callFunc_extern Tryd.func108 (by kernel_rfl) (by kernel_rfl) (by kernel_rfl) (e := add64Entry) (by kernel_rfl), run_add64 (x : Int) (y : Int) 0 (by omega) (by omega) (by omega) (by omega)]
  simp only [Result.andThen]
  congr 5 <;> omega
theorem mac_parts {x n o c hi lo l2 m1 d m2 : Nat} (h1 : hi = x * n / 18446744073709551616) (h2 : lo = x * n % 18446744073709551616) (h3 : l2 = (lo + o) % 18446744073709551616) (h4 : m1 = (lo + o) / 18446744073709551616) (h5 : d = (l2 + c) % 18446744073709551616) (h6 : m2 = (l2 + c) / 18446744073709551616) :
    d = (x * n + o + c) % WB ∧ hi + m1 + m2 = (x * n + o + c) / WB := by
  rw [WB_eq]; omega
theorem mid_at {R L : List Nat} {i n k : Nat} (hL : L.length = n) (hin : i + n ≤ R.length) (hk : k < n) : (R.take i ++ L ++ R.drop (i + n))[i + k]? = L[k]? := by
  have h1 : (R.take i).length = i := by rw [List.length_take]; omega
  rw [List.getElem?_append_left (by rw [List.length_append, h1]; omega), List.getElem?_append_right (by omega), h1]
  congr 1; omega
theorem mid_set {R L : List Nat} {i n k d : Nat} (hL : L.length = n) (hin : i + n ≤ R.length) (hk : k < n) : (R.take i ++ L ++ R.drop (i + n)).set (i + k) d = R.take i ++ L.set k d ++ R.drop (i + n) := by
  have h1 : (R.take i).length = i := by rw [List.length_take]; omega
  rw [List.set_append, if_pos (by rw [List.length_append, h1]; omega), List.set_append, if_neg (by omega), h1]
  congr 3; omega
theorem part_w (L : List Nat) (o n k : Nat) (hk : k < n) : ((L.drop o).take n)[k]? = L[o + k]? := by
  rw [List.getElem?_take, if_pos hk, List.getElem?_drop]
def AtW (w : World) (gr i n : Nat) (R X : List Nat) (m : Nat) (cv iv : Value) (wr : World) : Prop :=
  ∃ (k c : Nat) (L : List Nat), k ≤ n ∧ iv = .int .i64 (k : Int) ∧ cv = .int .u64 (c : Int) ∧ MacRel ((R.drop i).take n) X m k c L ∧ RowW wr gr (R.take i ++ L ++ R.drop (i + n)) ∧ w.grownBy wr (some gr) ∧ wr.heap.size = w.heap.size

set_option maxRecDepth 100000 in
set_option maxHeartbeats 2000000 in
theorem addTimesW (gr gx i n ca : Nat) (R X : List Nat) (m : Nat) (w : World) (hr : RowW w gr R) (hR : okW R) (hx : RowW w gx X) (hX : okW X) (hne : gx ≠ gr) (hl : X.length = n) (hin : i + n ≤ R.length) (hm : m < WB) (hn : n ≤ 100000000000000) (hi : i ≤ 100000000000000) :
    Calls Tryd.prog 106 #[.slice (some ⟨gr, i, none⟩) n ca, .slice (some ⟨gx, 0, none⟩) n n, .int .u64 (m : Int)] w fun e w' =>
      ∃ (c : Nat) (M : List Nat), e = .returned (.int .u64 (c : Int)) ∧ MacRel ((R.drop i).take n) X m n c M ∧ RowW w' gr (R.take i ++ M ++ R.drop (i + n)) ∧ w.grownBy w' (some gr) ∧ w'.heap.size = w.heap.size := by
  have hst : MacRel ((R.drop i).take n) X m 0 0 ((R.drop i).take n) := MacRel.start _ _ _ (okW_take (okW_drop hR i) n)
  have hwhole : R.take i ++ (R.drop i).take n ++ R.drop (i + n) = R := by
    rw [List.append_assoc, ← List.drop_drop, List.take_append_drop, List.take_append_drop]
  have hst2 : RowW w gr (R.take i ++ (R.drop i).take n ++ R.drop (i + n)) := by rw [hwhole]; exact hr
  have HST := Lib.hid hst
  have HST2 := Lib.hid hst2
  have HX := Lib.hid hx
  have HXO := Lib.hid hX
  have HRO := Lib.hid hR
  have HM := Lib.hid hm
  have HL := Lib.hid hl
  have HNE := Lib.hid hne
  clear hst hst2 hwhole hr hR hx hX hne hl hm
  go_enter Tryd.func106, Tryd.ntmps106
  go_wp2_with fail
  go_loopw [7, 15] (fun cv iv wr => AtW w gr i n R X m cv iv wr) (fun _ iv _ => n - (intOf iv).toNat)
  case atStart => exact ⟨0, 0, _, Nat.zero_le _, rfl, rfl, HST.out, HST2.out, grownBy_refl _ _, rfl⟩
  case round =>
    obtain ⟨k, c, L, hk, rfl, rfl, hmac, hrow, hgr, hz⟩ := hrel
    have hLl : L.length = n := by rw [hmac.1, List.length_take, List.length_drop]; omega
    by_cases hlt : k < n
    · obtain ⟨x, hxk⟩ : ∃ x, X[k]? = some x := ⟨X[k]'(by rw [HL.out]; exact hlt), List.getElem?_eq_getElem _⟩
      obtain ⟨o, hok⟩ : ∃ o, R[i + k]? = some o := ⟨R[i + k]'(by omega), List.getElem?_eq_getElem _⟩
      obtain ⟨hLk, hnext⟩ := hmac.step HXO.out HM.out hxk (by rw [part_w R i n k hlt]; exact hok)
      have hxW : x < 18446744073709551616 := wlt HXO.out hxk
      have hoW : o < 18446744073709551616 := wlt HRO.out hok
      have hcW : c < 18446744073709551616 := hmac.2.2.1
      have hmW : m < 18446744073709551616 := HM.out
      have c0 := (HX.out.grown hgr HNE.out).cell hxk
      have d0 := hrow.cell (i := i + k) (x := o) (by rw [mid_at hLl hin hlt]; exact hLk)
      have f0 := hrow.frozen (i + k)
      obtain ⟨hi', hhi⟩ : ∃ v, v = x * m / 18446744073709551616 := ⟨_, rfl⟩
      obtain ⟨lo, hlo⟩ : ∃ v, v = x * m % 18446744073709551616 := ⟨_, rfl⟩
      obtain ⟨l2, hl2⟩ : ∃ v, v = (lo + o) % 18446744073709551616 := ⟨_, rfl⟩
      obtain ⟨m1, hm1⟩ : ∃ v, v = (lo + o) / 18446744073709551616 := ⟨_, rfl⟩
      obtain ⟨d, hd⟩ : ∃ v, v = (l2 + c) % 18446744073709551616 := ⟨_, rfl⟩
      obtain ⟨m2, hm2⟩ : ∃ v, v = (l2 + c) / 18446744073709551616 := ⟨_, rfl⟩
      have hmul := fun W => Tryd.bits_Mul64 x m hxW hmW W
      have ha1 := fun W => add64_run lo o W
      have ha2 := fun W => add64_run l2 c W
      rw [← hhi, ← hlo] at hmul
      rw [← hl2, ← hm1] at ha1
      rw [← hd, ← hm2] at ha2
      obtain ⟨e1, e2⟩ := mac_parts hhi hlo hl2 hm1 hd hm2
      have hq : hi' + m1 + m2 < 18446744073709551616 := by rw [e2]; exact mac_word hxW hmW hoW hcW
      rw [← e1, ← e2] at hnext
      have w1 : IntKind.u64.wrap ((hi' : Int) + (m1 : Int)) = ((hi' + m1 : Nat) : Int) := by rw [IntKind.wrap_u64]; omega
      have w2 : IntKind.u64.wrap (((hi' + m1 : Nat) : Int) + (m2 : Int)) = ((hi' + m1 + m2 : Nat) : Int) := by rw [IntKind.wrap_u64]; omega
      have HMUL := Lib.hid hmul
      have HNX := Lib.hid hnext
      have HROW := Lib.hid hrow
      have HGR := Lib.hid hgr
      have HZ := Lib.hid hz
      have hkI : (k : Int) < (n : Int) := by omega
      have hbnd : i + k ≤ 200000000000000 := by omega
      clear hmul hnext hrow hgr hz hmac hxk hok hLk hhi hlo hl2 hm1 hd hm2 e1 e2 hxW hoW hcW hmW
      go_wp2_with fail
      refine (HMUL.out _).mono ?_
      rintro e w2' ⟨he, rfl⟩
      subst he
      go_wp2_with fail
      refine ⟨⟨k + 1, hi' + m1 + m2, L.set k d, by omega, by go_num, by rw [Int.natCast_add, Int.natCast_add], HNX.out, ?_, grownBy_set HGR.out _ _, by simp [World.setCell]; exact HZ.out⟩, by simp [intOf]; omega⟩
      have h := HROW.out.set (i + k) d
      rw [mid_set hLl hin hlt] at h
      exact h
    · obtain rfl : k = n := by omega
      go_wp2_with fail
      go_ret
      exact ⟨c, L, rfl, hmac, hrow, hgr, hz⟩
end Go.Proofs.YtlmcafcebidliaaDoor
