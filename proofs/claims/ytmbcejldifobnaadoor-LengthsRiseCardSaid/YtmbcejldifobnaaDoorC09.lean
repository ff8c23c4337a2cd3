import Derived.Test.YtmbcejldifobnaaDoorC08
import Derived.Test.YtmbcejldifobnaaDoorC07
namespace Go.Proofs.YtmbcejldifobnaaDoor.Sp
open Go.RowKit
theorem div64_all (hi lo y : Nat) (w : World) (hlo : lo < 18446744073709551616) (hy : hi < y) (hy' : y < 18446744073709551616) :
    Calls Tryd.prog 203 #[.int .u64 (hi : Int), .int .u64 (lo : Int), .int .u64 (y : Int)] w fun e w' => e = .returned (.tuple #[.int .u64 (((hi * 18446744073709551616 + lo) / y : Nat) : Int), .int .u64 (((hi * 18446744073709551616 + lo) % y : Nat) : Int)]) ∧ Below w.heap.size w w' := by
  by_cases h : hi = 0
  · subst h
    have := div64_zero lo y w hlo (by omega) hy'
    rw [Nat.zero_mul, Nat.zero_add]
    exact this
  · exact div64_any hi lo y w (by omega) hlo hy hy'

theorem split_div {h l d B : Nat} (hd : 0 < d) : (h * B + l) / d = h / d * B + (h % d * B + l) / d := by
  have h1 := Nat.div_add_mod h d
  have e2 : h * B + l = h % d * B + l + d * (h / d * B) := by
    rw [← Nat.mul_assoc]
    have : h * B = (d * (h / d) + h % d) * B := by rw [h1]
    rw [this, Nat.add_mul]
    generalize d * (h / d) * B = A
    generalize h % d * B = C
    omega
  rw [e2, Nat.add_mul_div_left _ _ hd, Nat.add_comm]
theorem down_val_gen {h l d B : Nat} (hd : 0 < d) (hl : l < B) :
    ((h * B + l : Nat) : Int) / (d : Int) / (B : Int) = ((h / d : Nat) : Int) ∧
    ((h * B + l : Nat) : Int) / (d : Int) % (B : Int) = (((h % d * B + l) / d : Nat) : Int) := by
  have e := split_div (h := h) (l := l) (B := B) hd
  have hq : (h % d * B + l) / d < B := by
    have h1 := Nat.mod_lt h hd
    rw [Nat.div_lt_iff_lt_mul hd]
    have h2 : (h % d + 1) * B ≤ d * B := Nat.mul_le_mul_right _ h1
    rw [Nat.add_mul, Nat.one_mul, Nat.mul_comm d] at h2
    omega
  rw [← Int.natCast_ediv, e, ← Int.natCast_ediv, ← Int.natCast_emod, Nat.add_comm, Nat.add_mul_div_right _ _ (by omega), Nat.div_eq_of_lt hq, Nat.zero_add, Nat.add_mul_mod_self_right, Nat.mod_eq_of_lt hq]
  exact ⟨rfl, rfl⟩
theorem down_pos_val {h l d : Nat} (hd : 0 < d) (hl : l < 18446744073709551616) :
    ((h * 18446744073709551616 + l : Nat) : Int) / (d : Int) / 18446744073709551616 = ((h / d : Nat) : Int) ∧
    ((h * 18446744073709551616 + l : Nat) : Int) / (d : Int) % 18446744073709551616 = (((h % d * 18446744073709551616 + l) / d : Nat) : Int) :=
  down_val_gen (B := 18446744073709551616) hd hl

set_option maxRecDepth 100000 in
theorem down_pos (h l d : Nat) (w : World) (hh : h < 9223372036854775808) (hl : l < 18446744073709551616) (hd : 0 < d) (hd' : d < 9223372036854775808) :
    Calls Tryd.prog 199 #[.agg #[.int .i64 (h : Int), .int .u64 (l : Int)], .int .i64 (d : Int)] w fun e w' => e = .returned (.agg #[.int .i64 ((h / d : Nat) : Int), .int .u64 (((h % d * 18446744073709551616 + l) / d : Nat) : Int)]) ∧ Below w.heap.size w w' := by
  have h1 := fun w => div64_all 0 h d w (by omega) hd (by omega)
  rw [Nat.zero_mul, Nat.zero_add] at h1
  have h2 := fun w => div64_all (h % d) l d w hl (Nat.mod_lt _ hd) (by omega)
  have hq : h / d < 9223372036854775808 := Nat.lt_of_le_of_lt (Nat.div_le_self _ _) hh
  generalize (h % d * 18446744073709551616 + l) % d = r2 at *
  generalize (h % d * 18446744073709551616 + l) / d = q2 at *
  generalize h % d = r1 at *
  generalize h / d = q1 at *
  have H1 := Lib.hid h1
  have H2 := Lib.hid h2
  clear h1 h2
  have t0 : ¬ (h : Int) < 0 := by omega
  go_enter Tryd.func199, Tryd.ntmps199
  go_wp2_with fail
  refine (H1.out _).mono ?_
  rintro e w1 ⟨he, hb⟩
  subst he
  have F := Fm.of2 hb
  have c0 := F.k0.c0
  have c1 := F.k0.c1
  have F1 := Lib.hid F
  clear hb F
  go_wp2_with fail
  refine (H2.out _).mono ?_
  rintro e w2 ⟨he, hb⟩
  subst he
  have F2 := F1.out.later hb
  obtain ⟨p, q, hr⟩ := F2.res
  have c30 := hr.c0
  have c31 := hr.c1
  have f30 := hr.f0
  have f31 := hr.f1
  have FB := Lib.hid F2
  clear hb hr F2
  go_wp2_with fail
  refine bodyPost_ret (v := .agg #[.int .i64 (q1 : Int), .int .u64 (q2 : Int)]) (by simp [results, Tryd.results199, c30, c31, go_sem]) rfl ⟨rfl, (FB.out.set _ _).bl⟩

theorem prV_down {p d : Int} {h l k : Nat} (hp : p = (h * 18446744073709551616 + l : Nat)) (hk : d = k) (h0 : 0 < k) (hl : l < 18446744073709551616) :
    prV (p / d) = .agg #[.int .i64 ((h / k : Nat) : Int), .int .u64 (((h % k * 18446744073709551616 + l) / k : Nat) : Int)] := by
  obtain ⟨e1, e2⟩ := down_pos_val (h := h) (l := l) h0 hl
  subst hp hk
  unfold prV
  rw [e1, e2]
theorem neg_div {p d : Int} (hd : 0 < d) : -1 - (-1 - p) / d = p / d := by
  have h1 := Int.emod_add_mul_ediv p d
  have h2 := Int.emod_nonneg p (Int.ne_of_gt hd)
  have h3 := Int.emod_lt_of_pos p hd
  have key : -1 - p / d = (-1 - p) / d := by
    have := ((Int.ediv_emod_unique (a := -1 - p) (r := d - 1 - p % d) (q := -1 - p / d) hd).2 ⟨by rw [Int.mul_sub, Int.mul_neg]; omega, by omega, by omega⟩).1
    exact this.symm
  omega
theorem fits_div {p d : Int} (hp : Fits p) (hd : 0 < d) : Fits (p / d) := by
  have := ediv_le' (a := p) hd
  unfold Fits at *
  omega
theorem down_nonneg (p d : Int) (w : World) (hp : Fits p) (h0 : 0 ≤ p) (hd : 1 ≤ d ∧ d ≤ 9223372036854775807) :
    Calls Tryd.prog 199 #[prV p, .int .i64 d] w fun e w' => e = .returned (prV (p / d)) ∧ Below w.heap.size w w' := by
  unfold Fits at hp
  obtain ⟨k, rfl⟩ := Int.eq_ofNat_of_zero_le (show 0 ≤ d by omega)
  obtain ⟨n, rfl⟩ := Int.eq_ofNat_of_zero_le h0
  have e := prV_down (p := (n : Int)) (d := (k : Int)) (h := n / 18446744073709551616) (l := n % 18446744073709551616) (k := k) (by rw [Nat.div_add_mod']) rfl (by omega) (by omega)
  rw [e]
  have := down_pos (n / 18446744073709551616) (n % 18446744073709551616) k w (by omega) (by omega) (by omega) (by omega)
  exact this

set_option maxRecDepth 100000 in
theorem down_any (p d : Int) (w : World) (hp : Fits p) (hd : 1 ≤ d ∧ d ≤ 9223372036854775807) :
    Calls Tryd.prog 199 #[prV p, .int .i64 d] w fun e w' => e = .returned (prV (p / d)) ∧ Below w.heap.size w w' := by
  rcases Int.lt_or_le p 0 with h0 | h0
  · have h1 := fun w => inverted_any p w hp
    have f1 : Fits (-1 - p) := by unfold Fits at *; omega
    have h2 := fun w => down_nonneg (-1 - p) d w f1 (by omega) hd
    have h3 := fun w => inverted_any ((-1 - p) / d) w (fits_div f1 (by omega))
    rw [neg_div (by omega)] at h3
    have t0 : p / 18446744073709551616 < 0 := by unfold Fits at hp; omega
    unfold prV at *
    generalize p / 18446744073709551616 = ph at *
    generalize p % 18446744073709551616 = pl at *
    generalize p / d / 18446744073709551616 = qh at *
    generalize p / d % 18446744073709551616 = ql at *
    generalize (-1 - p) / d / 18446744073709551616 = rh at *
    generalize (-1 - p) / d % 18446744073709551616 = rl at *
    generalize (-1 - p) / 18446744073709551616 = nh at *
    generalize (-1 - p) % 18446744073709551616 = nl at *
    have H1 := Lib.hid h1
    have H2 := Lib.hid h2
    have H3 := Lib.hid h3
    clear h1 h2 h3 hp f1 h0 hd
    go_enter Tryd.func199, Tryd.ntmps199
    go_wp2_with fail
    refine (H1.out _).mono ?_
    rintro e w1 ⟨he, hb⟩
    subst he
    have F1 := Lib.hid (Fm.of2 hb)
    clear hb
    go_wp2_with fail
    refine (H2.out _).mono ?_
    rintro e w2 ⟨he, hb⟩
    subst he
    have F2 := Lib.hid (F1.out.later hb)
    clear hb
    go_wp2_with fail
    refine (H3.out _).mono ?_
    rintro e w3 ⟨he, hb⟩
    subst he
    have F3 := F2.out.later hb
    obtain ⟨p, q, hr⟩ := F3.res
    have c30 := hr.c0
    have c31 := hr.c1
    have f30 := hr.f0
    have f31 := hr.f1
    have FB := Lib.hid F3
    clear hb hr F3
    go_wp2_with fail
    refine bodyPost_ret (v := .agg #[.int .i64 qh, .int .u64 ql]) (by simp [results, Tryd.results199, c30, c31, go_sem]) rfl ⟨rfl, (FB.out.set _ _).bl⟩
  · exact down_nonneg p d w hp h0 hd

set_option maxRecDepth 100000 in
theorem up_any (p d : Int) (w : World) (hp : Fits p) (hd : 1 ≤ d ∧ d ≤ 9223372036854775807) :
    Calls Tryd.prog 201 #[prV p, .int .i64 d] w fun e w' => e = .returned (prV (upI p d)) ∧ Below w.heap.size w w' := by
  have h1 := fun w => negative_any p w hp
  have f1 : Fits (-p) := by unfold Fits at *; omega
  have h2 := fun w => down_any (-p) d w f1 hd
  have h3 := fun w => negative_any (-p / d) w (fits_div f1 (by omega))
  unfold upI
  unfold prV at *
  generalize p / 18446744073709551616 = ph at *
  generalize p % 18446744073709551616 = pl at *
  generalize -(-p / d) / 18446744073709551616 = qh at *
  generalize -(-p / d) % 18446744073709551616 = ql at *
  generalize -p / d / 18446744073709551616 = rh at *
  generalize -p / d % 18446744073709551616 = rl at *
  generalize -p / 18446744073709551616 = nh at *
  generalize -p % 18446744073709551616 = nl at *
  have H1 := Lib.hid h1
  have H2 := Lib.hid h2
  have H3 := Lib.hid h3
  clear h1 h2 h3 hp f1 hd
  go_enter Tryd.func201, Tryd.ntmps201
  go_wp2_with fail
  refine (H1.out _).mono ?_
  rintro e w1 ⟨he, hb⟩
  subst he
  have F1 := Lib.hid (Fm.of2 hb)
  clear hb
  go_wp2_with fail
  refine (H2.out _).mono ?_
  rintro e w2 ⟨he, hb⟩
  subst he
  have F2 := Lib.hid (F1.out.later hb)
  clear hb
  go_wp2_with fail
  refine (H3.out _).mono ?_
  rintro e w3 ⟨he, hb⟩
  subst he
  have F3 := F2.out.later hb
  obtain ⟨p, q, hr⟩ := F3.res
  have c30 := hr.c0
  have c31 := hr.c1
  have f30 := hr.f0
  have f31 := hr.f1
  have FB := Lib.hid F3
  clear hb hr F3
  go_wp2_with fail
  refine bodyPost_ret (v := .agg #[.int .i64 qh, .int .u64 ql]) (by simp [results, Tryd.results201, c30, c31, go_sem]) rfl ⟨rfl, (FB.out.set _ _).bl⟩

theorem bound_yes {p : Int} (hp : I64 p) : wrap64 (p % 18446744073709551616) = p := by
  unfold I64 at hp; unfold wrap64; omega
set_option maxRecDepth 100000 in
theorem bound_any (p : Int) (w : World) (hp : Fits p) :
    Calls Tryd.prog 200 #[prV p] w fun e w' => e = .returned (.tuple #[.int .i64 (if okB p then p else 0), .bool (okB p)]) ∧ Below w.heap.size w w' := by
  have hI : I64 (wrap64 (p % 18446744073709551616)) := by unfold I64 wrap64; omega
  have h1 := fun w => times_any (wrap64 (p % 18446744073709551616)) 1 w hI (by unfold I64; omega)
  rw [Int.mul_one] at h1
  have h2 := fun w => allowed_any (wrap64 (p % 18446744073709551616)) w hI
  obtain ⟨n, hn⟩ : ∃ n, n = wrap64 (p % 18446744073709551616) := ⟨_, rfl⟩
  rw [← hn] at h1 h2
  have hq : wrap64 (p % 18446744073709551616) = n := hn.symm
  by_cases he : n = p
  · rw [he] at h1 h2 hq
    obtain ⟨m, hm⟩ : ∃ m, m = if okB p = true then p else 0 := ⟨_, rfl⟩
    rw [← hm]
    have hyes : okB p = true → m = p := fun h => by rw [hm, if_pos h]
    have hno : okB p = false → m = 0 := fun h => by rw [hm, h]; rfl
    unfold prV at *
    generalize okB p = b at *
    clear hm hn hI hp he
    generalize p / 18446744073709551616 = ph at *
    generalize p % 18446744073709551616 = pl at *
    have hb0 := Km.new1 w (.int .i64 ph) (.int .u64 pl) 221
    have HB0 := Lib.hid hb0
    have H1 := Lib.hid h1
    have H2 := Lib.hid h2
    clear hb0 h1 h2
    cases b
    · obtain rfl := hno rfl
      clear hyes hno
      go_enter Tryd.func200, Tryd.ntmps200
      go_wp2_with fail
      have hk := HB0.out
      first
        | (go_region_held3 (fun w' => Km w [(w.heap.size, .int .i64 ph, .int .u64 pl)] w' ∧ w'.cell? ⟨w.heap.size, 0, none⟩ = some (.int .i64 ph) ∧ w'.cell? ⟨w.heap.size, 1, none⟩ = some (.int .u64 pl))
                   (refine ⟨?_, ?_, ?_⟩ <;> first | assumption | (exact Km.drew ‹_›) | go_keep)
                   (first
                     | (go_at_call 197; refine Calls.mono (H1.out _) ?_; clear H1; rintro e w2 ⟨he, hb2⟩; subst he; have hS2 := Km.later (by first | assumption | exact Km.drew ‹_›) hb2; have c10' := hS2.k0.c0; have c11' := hS2.k0.c1)
                     | (go_at_call 188; refine Calls.mono (H2.out _) ?_; rintro e w3 ⟨he, hb3⟩; subst he hb3)))
        | fail
      all_goals
        go_wp2_with fail
        go_ret2
        exact ⟨rfl, Km.bl (by first | assumption | exact Km.drew ‹_›)⟩
    · obtain rfl := hyes rfl
      clear hyes hno
      go_enter Tryd.func200, Tryd.ntmps200
      go_wp2_with fail
      have hk := HB0.out
      first
        | (go_region_held3 (fun w' => Km w [(w.heap.size, .int .i64 ph, .int .u64 pl)] w' ∧ w'.cell? ⟨w.heap.size, 0, none⟩ = some (.int .i64 ph) ∧ w'.cell? ⟨w.heap.size, 1, none⟩ = some (.int .u64 pl))
                   (refine ⟨?_, ?_, ?_⟩ <;> first | assumption | (exact Km.drew ‹_›) | go_keep)
                   (first
                     | (go_at_call 197; refine Calls.mono (H1.out _) ?_; clear H1; rintro e w2 ⟨he, hb2⟩; subst he; have hS2 := Km.later (by first | assumption | exact Km.drew ‹_›) hb2; have c10' := hS2.k0.c0; have c11' := hS2.k0.c1)
                     | (go_at_call 188; refine Calls.mono (H2.out _) ?_; rintro e w3 ⟨he, hb3⟩; subst he hb3)))
        | fail
      all_goals
        go_wp2_with fail
        go_ret2
        exact ⟨rfl, Km.bl (by first | assumption | exact Km.drew ‹_›)⟩
  · have hno : okB p = false := by
      cases h' : okB p
      · rfl
      · exfalso
        rw [okB_iff] at h'
        exact he (by rw [hn]; exact bound_yes (by unfold I64; omega))
    rw [hno]
    have hd : ¬ p / 18446744073709551616 = n / 18446744073709551616 ∨ ¬ p % 18446744073709551616 = n % 18446744073709551616 := by omega
    show Calls _ _ _ w fun e w' => e = .returned (.tuple #[.int .i64 0, .bool false]) ∧ _
    unfold prV at *
    clear hn hI hp he hno h2
    generalize p / 18446744073709551616 = ph at *
    generalize p % 18446744073709551616 = pl at *
    generalize n / 18446744073709551616 = nh at *
    generalize n % 18446744073709551616 = nl at *
    have hb0 := Km.new1 w (.int .i64 ph) (.int .u64 pl) 221
    have HB0 := Lib.hid hb0
    have H1 := Lib.hid h1
    clear hb0 h1
    by_cases hh : ph = nh
    · have q1 : (pl == nl) = false := by
        rcases hd with h | h
        · exact absurd hh h
        · simp [h]
      have q0 : (ph == nh) = true := by simp [hh]
      clear hd hh
      go_enter Tryd.func200, Tryd.ntmps200
      go_wp2_with fail
      have hk := HB0.out
      have hd1 := hk.drew
      clear hk
      refine E_start (S := (fun w' => Km w [(w.heap.size, .int .i64 ph, .int .u64 pl)] w' ∧ w'.cell? ⟨w.heap.size, 0, none⟩ = some (.int .i64 ph) ∧ w'.cell? ⟨w.heap.size, 1, none⟩ = some (.int .u64 pl))) (by kernel_rfl) ⟨hd1, hd1.k0.c0, hd1.k0.c1⟩ ?_
      clear hd1
      refine call_take (i := 0) (v := (.agg #[.int .i64 ph, .int .u64 pl])) rfl (by kernel_rfl) (by kernel_rfl) (by kernel_rfl) (fun _ _ _ h => h) ⟨by kernel_rfl, .inr (fun w' hSw => by have q0' := hSw.2.1; have q1' := hSw.2.2; clear hSw; go_simp)⟩ ?_
      simp only [Act.put, List.getElem_toArray, List.getElem_cons_succ, List.getElem_cons_zero, List.setIfInBounds_toArray, List.set_cons_zero, List.set_cons_succ]
      refine call_take (i := 1) (v := (.int .i64 n)) rfl (by kernel_rfl) (by kernel_rfl) (by kernel_rfl) (fun _ _ _ h => h) ⟨by kernel_rfl, .inr (fun w' _ => by go_simp)⟩ ?_
      simp only [Act.put, List.getElem_toArray, List.getElem_cons_succ, List.getElem_cons_zero, List.setIfInBounds_toArray, List.set_cons_zero, List.set_cons_succ]
      refine call_take (i := 2) (v := .agg #[.int .i64 nh, .int .u64 nl]) rfl (by kernel_rfl) (by kernel_rfl) (by kernel_rfl) (fun _ _ _ h => h) ⟨by kernel_rfl, .inl ⟨197, #[.int .i64 n, .int .i64 1], fun w' => by go_simp, fun w' hw => (H1.out w').mono fun e u ⟨h1, h2⟩ => ⟨h1, h2, hw.1.later h2, (hw.1.later h2).k0.c0, (hw.1.later h2).k0.c1⟩⟩⟩ ?_
      simp only [Act.put, List.getElem_toArray, List.getElem_cons_succ, List.getElem_cons_zero, List.setIfInBounds_toArray, List.set_cons_zero, List.set_cons_succ]
      refine call_take (i := 3) (v := (.bool true)) rfl (by kernel_rfl) (by kernel_rfl) (by kernel_rfl) (fun _ _ _ h => h) ⟨by kernel_rfl, .inr (fun w' _ => by go_simp)⟩ ?_
      simp only [Act.put, List.getElem_toArray, List.getElem_cons_succ, List.getElem_cons_zero, List.setIfInBounds_toArray, List.set_cons_zero, List.set_cons_succ]
      refine call_take (i := 4) (v := (.bool true)) rfl (by kernel_rfl) (by kernel_rfl) (by kernel_rfl) (fun _ _ _ h => h) ⟨by kernel_rfl, .inr (fun w' _ => by go_simp)⟩ ?_
      simp only [Act.put, List.getElem_toArray, List.getElem_cons_succ, List.getElem_cons_zero, List.setIfInBounds_toArray, List.set_cons_zero, List.set_cons_succ]
      refine skip_take (i := 5) rfl (by kernel_rfl) (by kernel_rfl) (by kernel_rfl) (fun _ _ _ h => h) (by kernel_rfl) ?_
      simp only [Act.put, List.getElem_toArray, List.getElem_cons_succ, List.getElem_cons_zero, List.setIfInBounds_toArray, List.set_cons_zero, List.set_cons_succ]
      refine skip_take (i := 6) rfl (by kernel_rfl) (by kernel_rfl) (by kernel_rfl) (fun _ _ _ h => h) (by kernel_rfl) ?_
      simp only [Act.put, List.getElem_toArray, List.getElem_cons_succ, List.getElem_cons_zero, List.setIfInBounds_toArray, List.set_cons_zero, List.set_cons_succ]
      refine skip_take (i := 7) rfl (by kernel_rfl) (by kernel_rfl) (by kernel_rfl) (fun _ _ _ h => h) (by kernel_rfl) ?_
      simp only [Act.put, List.getElem_toArray, List.getElem_cons_succ, List.getElem_cons_zero, List.setIfInBounds_toArray, List.set_cons_zero, List.set_cons_succ]
      refine call_take (i := 8) (v := (.bool true)) rfl (by kernel_rfl) (by kernel_rfl) (by kernel_rfl) (fun _ _ _ h => h) ⟨by kernel_rfl, .inr (fun w' _ => by go_simp)⟩ ?_
      simp only [Act.put, List.getElem_toArray, List.getElem_cons_succ, List.getElem_cons_zero, List.setIfInBounds_toArray, List.set_cons_zero, List.set_cons_succ]
      refine E_done (by kernel_rfl) (fun u hu => ?_) _
      have hk := Lib.hid hu.2.1
      clear hu
      go_wp2_with fail
      go_ret2
      exact ⟨rfl, hk.out.bl⟩
    · have q0 : (ph == nh) = false := by simp [hh]
      clear hd hh
      go_enter Tryd.func200, Tryd.ntmps200
      go_wp2_with fail
      have hk := HB0.out
      have hd1 := hk.drew
      clear hk
      refine E_start (S := (fun w' => Km w [(w.heap.size, .int .i64 ph, .int .u64 pl)] w' ∧ w'.cell? ⟨w.heap.size, 0, none⟩ = some (.int .i64 ph) ∧ w'.cell? ⟨w.heap.size, 1, none⟩ = some (.int .u64 pl))) (by kernel_rfl) ⟨hd1, hd1.k0.c0, hd1.k0.c1⟩ ?_
      clear hd1
      refine call_take (i := 0) (v := (.agg #[.int .i64 ph, .int .u64 pl])) rfl (by kernel_rfl) (by kernel_rfl) (by kernel_rfl) (fun _ _ _ h => h) ⟨by kernel_rfl, .inr (fun w' hSw => by have q0' := hSw.2.1; have q1' := hSw.2.2; clear hSw; go_simp)⟩ ?_
      simp only [Act.put, List.getElem_toArray, List.getElem_cons_succ, List.getElem_cons_zero, List.setIfInBounds_toArray, List.set_cons_zero, List.set_cons_succ]
      refine call_take (i := 1) (v := (.int .i64 n)) rfl (by kernel_rfl) (by kernel_rfl) (by kernel_rfl) (fun _ _ _ h => h) ⟨by kernel_rfl, .inr (fun w' _ => by go_simp)⟩ ?_
      simp only [Act.put, List.getElem_toArray, List.getElem_cons_succ, List.getElem_cons_zero, List.setIfInBounds_toArray, List.set_cons_zero, List.set_cons_succ]
      refine call_take (i := 2) (v := .agg #[.int .i64 nh, .int .u64 nl]) rfl (by kernel_rfl) (by kernel_rfl) (by kernel_rfl) (fun _ _ _ h => h) ⟨by kernel_rfl, .inl ⟨197, #[.int .i64 n, .int .i64 1], fun w' => by go_simp, fun w' hw => (H1.out w').mono fun e u ⟨h1, h2⟩ => ⟨h1, h2, hw.1.later h2, (hw.1.later h2).k0.c0, (hw.1.later h2).k0.c1⟩⟩⟩ ?_
      simp only [Act.put, List.getElem_toArray, List.getElem_cons_succ, List.getElem_cons_zero, List.setIfInBounds_toArray, List.set_cons_zero, List.set_cons_succ]
      refine call_take (i := 3) (v := (.bool true)) rfl (by kernel_rfl) (by kernel_rfl) (by kernel_rfl) (fun _ _ _ h => h) ⟨by kernel_rfl, .inr (fun w' _ => by go_simp)⟩ ?_
      simp only [Act.put, List.getElem_toArray, List.getElem_cons_succ, List.getElem_cons_zero, List.setIfInBounds_toArray, List.set_cons_zero, List.set_cons_succ]
      refine call_take (i := 4) (v := (.bool true)) rfl (by kernel_rfl) (by kernel_rfl) (by kernel_rfl) (fun _ _ _ h => h) ⟨by kernel_rfl, .inr (fun w' _ => by go_simp)⟩ ?_
      simp only [Act.put, List.getElem_toArray, List.getElem_cons_succ, List.getElem_cons_zero, List.setIfInBounds_toArray, List.set_cons_zero, List.set_cons_succ]
      refine skip_take (i := 5) rfl (by kernel_rfl) (by kernel_rfl) (by kernel_rfl) (fun _ _ _ h => h) (by kernel_rfl) ?_
      simp only [Act.put, List.getElem_toArray, List.getElem_cons_succ, List.getElem_cons_zero, List.setIfInBounds_toArray, List.set_cons_zero, List.set_cons_succ]
      refine skip_take (i := 6) rfl (by kernel_rfl) (by kernel_rfl) (by kernel_rfl) (fun _ _ _ h => h) (by kernel_rfl) ?_
      simp only [Act.put, List.getElem_toArray, List.getElem_cons_succ, List.getElem_cons_zero, List.setIfInBounds_toArray, List.set_cons_zero, List.set_cons_succ]
      refine skip_take (i := 7) rfl (by kernel_rfl) (by kernel_rfl) (by kernel_rfl) (fun _ _ _ h => h) (by kernel_rfl) ?_
      simp only [Act.put, List.getElem_toArray, List.getElem_cons_succ, List.getElem_cons_zero, List.setIfInBounds_toArray, List.set_cons_zero, List.set_cons_succ]
      refine call_take (i := 8) (v := (.bool true)) rfl (by kernel_rfl) (by kernel_rfl) (by kernel_rfl) (fun _ _ _ h => h) ⟨by kernel_rfl, .inr (fun w' _ => by go_simp)⟩ ?_
      simp only [Act.put, List.getElem_toArray, List.getElem_cons_succ, List.getElem_cons_zero, List.setIfInBounds_toArray, List.set_cons_zero, List.set_cons_succ]
      refine E_done (by kernel_rfl) (fun u hu => ?_) _
      have hk := Lib.hid hu.2.1
      clear hu
      go_wp2_with fail
      go_ret2
      exact ⟨rfl, hk.out.bl⟩
end Go.Proofs.YtmbcejldifobnaaDoor.Sp
