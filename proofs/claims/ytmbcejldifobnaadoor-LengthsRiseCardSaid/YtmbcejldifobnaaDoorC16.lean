import Derived.Test.YtmbcejldifobnaaDoorC15
namespace Go.Proofs.YtmbcejldifobnaaDoor.Ln
open Go.RowKit Tp Sp Pc
theorem ok_quot {a b : Int × Int} (h1 : okB a.1 = true) (h2 : okB a.2 = true) (h3 : 0 < b.1) (h4 : 0 < b.2) (e : Int) : okC (quotW a b, e) := by
  rw [okB_iff] at h1 h2
  have p1 := ediv_le' (a := a.1) h3
  have p2 := ediv_le' (a := a.1) h4
  have p3 := ediv_le' (a := -a.2) h3
  have p4 := ediv_le' (a := -a.2) h4
  unfold quotW upI
  constructor
  · show I64 (min _ _); unfold I64; omega
  · show I64 (max _ _); unfold I64; omega
theorem ok_div (a b : Int × Int) : okC (divE a b) := by
  unfold divE
  split
  · rename_i h
    have ha := examI_ok h a (by simp)
    have hb := examI_ok h b (by simp)
    unfold divW
    split
    · exact okC_zero _
    · rename_i hz
      have o1 := okB_iff.1 ha.1
      have o2 := okB_iff.1 ha.2.1
      split
      · refine ok_quot ?_ ?_ ?_ ?_ _
        · show okB (-a.2) = true; rw [okB_iff]; omega
        · show okB (-a.1) = true; rw [okB_iff]; omega
        · show 0 < -b.2; omega
        · show 0 < -b.1; have := hb.2.2; omega
      · have := hb.2.2
        exact ok_quot ha.1 ha.2.1 (by omega) (by omega) _
  · exact okC_zero _
set_option maxRecDepth 100000 in
set_option maxHeartbeats 2000000 in
theorem length_yes (k B T M C x y t : Int) (w : World) (hkd : KdL w) (hI : I64 x ∧ I64 y) (hb : bdB k B T M C = true) : Calls Tryd.prog 76 #[.agg #[.int .i64 k, .int .i64 B, .int .i64 T, .int .i64 M, .int .i64 C], .agg #[.int .i64 x, .int .i64 y], .int .i64 t] w fun r w' => r = .returned (calV (lenV (spdE t) k B T M C (x, y))) ∧ Below w.heap.size w w' := by
  refine calls_of_wp Tryd.func76 rfl ?_
  refine Boxw.out (ax_in ?_)
  have HB : Array.size ((#[.agg #[.int .i64 k, .int .i64 B, .int .i64 T, .int .i64 M, .int .i64 C], .agg #[.int .i64 x, .int .i64 y], .int .i64 t] : Array Value) ++ Array.replicate (Func.ntmps Tryd.f76 - Array.size (#[.agg #[.int .i64 k, .int .i64 B, .int .i64 T, .int .i64 M, .int .i64 C], .agg #[.int .i64 x, .int .i64 y], .int .i64 t] : Array Value)) undef) = 26 := by kernel_rfl
  have HL0 := Loc.start w
  refine aw_seq ?_
  refine aw_reg ?_
  refine ax_new 64 [.int .i64 k, .int .i64 B, .int .i64 T, .int .i64 M, .int .i64 C] HB HL0 (by kernel_rfl) (by kernel_rfl) ?_
  intro g1 w2 HL3
  clear HL0
  refine ax_new 55 [.int .i64 x, .int .i64 y] HB HL3 (by kernel_rfl) (by kernel_rfl) ?_
  intro g4 w5 HL6
  clear HL3
  refine ax_new 125 [.int .i64 0, .int .i64 0, .int .i64 0] HB HL6 (by kernel_rfl) (by kernel_rfl) ?_
  intro g7 w8 HL9
  clear HL6
  refine aw_nil ?_
  refine aw_n_then ?_
  refine aw_seq ?_
  refine aw_seq ?_
  refine aw_reg ?_
  refine ax_mid 64 (.tmp 3) 2 g1 0 64 [.int .i64 k, .int .i64 B, .int .i64 T, .int .i64 M, .int .i64 C] [.int .i64 k, .int .i64 B, .int .i64 T, .int .i64 M, .int .i64 C] _ HB HL9 (by kernel_rfl) rfl (by kernel_rfl) rfl rfl Tryd.underlying64 rfl (by kernel_rfl) ?_
  refine ax_call 78 #[.agg #[.int .i64 k, .int .i64 B, .int .i64 T, .int .i64 M, .int .i64 C]] (.int .i64 0) HB HL9 (by kernel_rfl) (by kernel_rfl) ((by have h0 := Check_any k B T M C w8; rw [if_pos hb] at h0; exact h0)) ?_
  intro w10 HL11
  clear HL9
  refine ax_val (v := .int .i64 0) (.int .i64 0) HB (by kernel_rfl) (by kernel_rfl) (rfl) ?_
  refine aw_nil ?_
  refine aw_n_then ?_
  refine aw_seq ?_
  refine aw_reg ?_
  refine ax_val (v := .int .i64 0) (.int .i64 0) HB (by kernel_rfl) (by kernel_rfl) (rfl) ?_
  refine ax_val (v := .bool false) (.bool false) HB (by kernel_rfl) (by kernel_rfl) (rfl) ?_
  refine aw_nil ?_
  refine aw_n_then ?_
  refine ax_no HB (by kernel_rfl) ?_
  refine aw_skip0 ?_
  refine aw_n_then ?_
  refine aw_seq ?_
  refine ad_start [(g7, 125, [.int .i64 0, .int .i64 0, .int .i64 0]), (g4, 55, [.int .i64 x, .int .i64 y]), (g1, 64, [.int .i64 k, .int .i64 B, .int .i64 T, .int .i64 M, .int .i64 C])] HL11 (by kernel_rfl) (List.Sublist.cons_cons _ (List.Sublist.cons_cons _ (List.Sublist.cons_cons _ List.Sublist.slnil))) rfl ?_
  intro w13 HL12
  clear HL11
  refine ay_mid 0 64 (.tmp 3) 2 g1 0 64 [.int .i64 k, .int .i64 B, .int .i64 T, .int .i64 M, .int .i64 C] [.int .i64 k, .int .i64 B, .int .i64 T, .int .i64 M, .int .i64 C] _ HB rfl (by kernel_rfl) (by kernel_rfl) (by kernel_rfl) (fun _ _ _ h => h) (by kernel_rfl) rfl (by kernel_rfl) rfl rfl Tryd.underlying64 rfl (by kernel_rfl) ?_
  refine ay_val (v := .int .i64 t) 1 (.int .i64 t) HB rfl (by kernel_rfl) (by kernel_rfl) (by kernel_rfl) (fun _ _ _ h => h) (by kernel_rfl) (fun _ _ => by kernel_rfl) (rfl) ?_
  refine ay_call 2 82 #[.agg #[.int .i64 k, .int .i64 B, .int .i64 T, .int .i64 M, .int .i64 C], .int .i64 t] (.agg #[.int .i64 ((wayE (spdE t) k).1.1), .int .i64 ((wayE (spdE t) k).1.2), .int .i64 ((wayE (spdE t) k).2)]) HB rfl (by kernel_rfl) (by kernel_rfl) (by kernel_rfl) (fun _ _ _ h => h) (by kernel_rfl) (fun _ => by kernel_rfl) (fun u hu => slowest_any k B T M C t u (hkd.loc hu) hb) ?_
  refine ay_mid 3 55 (.tmp 4) 1 g4 0 55 [.int .i64 x, .int .i64 y] [.int .i64 x, .int .i64 y] _ HB rfl (by kernel_rfl) (by kernel_rfl) (by kernel_rfl) (fun _ _ _ h => h) (by kernel_rfl) rfl (by kernel_rfl) rfl rfl Tryd.underlying55 rfl (by kernel_rfl) ?_
  refine ay_call 4 79 #[.agg #[.int .i64 x, .int .i64 y], .int .i64 1000, .int .i64 20000000] (.agg #[.int .i64 ((limE ((x, y), 0) 1000 20000000 2).1.1), .int .i64 ((limE ((x, y), 0) 1000 20000000 2).1.2), .int .i64 ((limE ((x, y), 0) 1000 20000000 2).2)]) HB rfl (by kernel_rfl) (by kernel_rfl) (by kernel_rfl) (fun _ _ _ h => h) (by kernel_rfl) (fun _ => by kernel_rfl) (fun u hu => given_any x y 1000 20000000 u hI) ?_
  refine ay_call 5 83 #[.agg #[.int .i64 ((wayE (spdE t) k).1.1), .int .i64 ((wayE (spdE t) k).1.2), .int .i64 ((wayE (spdE t) k).2)], .agg #[.int .i64 ((limE ((x, y), 0) 1000 20000000 2).1.1), .int .i64 ((limE ((x, y), 0) 1000 20000000 2).1.2), .int .i64 ((limE ((x, y), 0) 1000 20000000 2).2)]] (.agg #[.int .i64 ((withE divE (wayE (spdE t) k) (limE ((x, y), 0) 1000 20000000 2)).1.1), .int .i64 ((withE divE (wayE (spdE t) k) (limE ((x, y), 0) 1000 20000000 2)).1.2), .int .i64 ((withE divE (wayE (spdE t) k) (limE ((x, y), 0) 1000 20000000 2)).2)]) HB rfl (by kernel_rfl) (by kernel_rfl) (by kernel_rfl) (fun _ _ _ h => h) (by kernel_rfl) (fun _ => by kernel_rfl) (fun u hu => over_any ((wayE (spdE t) k).1.1) ((wayE (spdE t) k).1.2) ((wayE (spdE t) k).2) ((limE ((x, y), 0) 1000 20000000 2).1.1) ((limE ((x, y), 0) 1000 20000000 2).1.2) ((limE ((x, y), 0) 1000 20000000 2).2) u (okC.two (ok_way t) (ok_lim (c := ((x, y), 0)) hI _ _ _))) ?_
  refine ad_one 6 HL12 (by kernel_rfl) (bs_new 125 [.int .i64 0, .int .i64 0, .int .i64 0] HB rfl (by kernel_rfl) (fun _ => by kernel_rfl) (List.Sublist.cons_cons _ (List.Sublist.cons_cons _ (List.Sublist.cons_cons _ List.Sublist.slnil))) ?_)
  intro g20 w21 HL22
  clear HL12
  refine ad_one 7 HL22 (by kernel_rfl) (bs_store 125 (.tmp 8) (.tmp 20) 0 g20 0 125 [.int .i64 0, .int .i64 0, .int .i64 0] [.int .i64 ((withE divE (wayE (spdE t) k) (limE ((x, y), 0) 1000 20000000 2)).1.1), .int .i64 ((withE divE (wayE (spdE t) k) (limE ((x, y), 0) 1000 20000000 2)).1.2), .int .i64 ((withE divE (wayE (spdE t) k) (limE ((x, y), 0) 1000 20000000 2)).2)] [.int .i64 ((withE divE (wayE (spdE t) k) (limE ((x, y), 0) 1000 20000000 2)).1.1), .int .i64 ((withE divE (wayE (spdE t) k) (limE ((x, y), 0) 1000 20000000 2)).1.2), .int .i64 ((withE divE (wayE (spdE t) k) (limE ((x, y), 0) 1000 20000000 2)).2)] [(g20, 125, [.int .i64 ((withE divE (wayE (spdE t) k) (limE ((x, y), 0) 1000 20000000 2)).1.1), .int .i64 ((withE divE (wayE (spdE t) k) (limE ((x, y), 0) 1000 20000000 2)).1.2), .int .i64 ((withE divE (wayE (spdE t) k) (limE ((x, y), 0) 1000 20000000 2)).2)]), (g7, 125, [.int .i64 0, .int .i64 0, .int .i64 0]), (g4, 55, [.int .i64 x, .int .i64 y]), (g1, 64, [.int .i64 k, .int .i64 B, .int .i64 T, .int .i64 M, .int .i64 C])] HB rfl (by kernel_rfl) rfl (by kernel_rfl) (by kernel_rfl) rfl (by kernel_rfl) (by kernel_rfl) (Nat.le_of_ble_eq_true rfl) rfl rfl (List.Sublist.cons _ (List.Sublist.cons_cons _ (List.Sublist.cons_cons _ (List.Sublist.cons_cons _ List.Sublist.slnil)))) ?_)
  intro w23 HL24
  clear HL22
  refine ad_done HL24 (by kernel_rfl) (fun w26 HL25 => ?_)
  clear HL24
  refine aw_n_then ?_
  refine aw_seq ?_
  refine ad_start [(g20, 125, [.int .i64 ((withE divE (wayE (spdE t) k) (limE ((x, y), 0) 1000 20000000 2)).1.1), .int .i64 ((withE divE (wayE (spdE t) k) (limE ((x, y), 0) 1000 20000000 2)).1.2), .int .i64 ((withE divE (wayE (spdE t) k) (limE ((x, y), 0) 1000 20000000 2)).2)]), (g4, 55, [.int .i64 x, .int .i64 y]), (g1, 64, [.int .i64 k, .int .i64 B, .int .i64 T, .int .i64 M, .int .i64 C])] HL25 (by kernel_rfl) (List.Sublist.cons_cons _ (List.Sublist.cons _ (List.Sublist.cons_cons _ (List.Sublist.cons_cons _ List.Sublist.slnil)))) rfl ?_
  intro w28 HL27
  clear HL25
  refine ay_mid 0 125 (.tmp 8) 0 g20 0 125 [.int .i64 ((withE divE (wayE (spdE t) k) (limE ((x, y), 0) 1000 20000000 2)).1.1), .int .i64 ((withE divE (wayE (spdE t) k) (limE ((x, y), 0) 1000 20000000 2)).1.2), .int .i64 ((withE divE (wayE (spdE t) k) (limE ((x, y), 0) 1000 20000000 2)).2)] [.int .i64 ((withE divE (wayE (spdE t) k) (limE ((x, y), 0) 1000 20000000 2)).1.1), .int .i64 ((withE divE (wayE (spdE t) k) (limE ((x, y), 0) 1000 20000000 2)).1.2), .int .i64 ((withE divE (wayE (spdE t) k) (limE ((x, y), 0) 1000 20000000 2)).2)] _ HB rfl (by kernel_rfl) (by kernel_rfl) (by kernel_rfl) (fun _ _ _ h => h) (by kernel_rfl) rfl (by kernel_rfl) rfl rfl Tryd.underlying125 rfl (by kernel_rfl) ?_
  refine ay_mid 1 64 (.tmp 3) 2 g1 0 64 [.int .i64 k, .int .i64 B, .int .i64 T, .int .i64 M, .int .i64 C] [.int .i64 k, .int .i64 B, .int .i64 T, .int .i64 M, .int .i64 C] _ HB rfl (by kernel_rfl) (by kernel_rfl) (by kernel_rfl) (fun _ _ _ h => h) (by kernel_rfl) rfl (by kernel_rfl) rfl rfl Tryd.underlying64 rfl (by kernel_rfl) ?_
  refine ay_call 2 81 #[.agg #[.int .i64 k, .int .i64 B, .int .i64 T, .int .i64 M, .int .i64 C]] (.agg #[.int .i64 ((corrE k B T M C).1.1), .int .i64 ((corrE k B T M C).1.2), .int .i64 ((corrE k B T M C).2)]) HB rfl (by kernel_rfl) (by kernel_rfl) (by kernel_rfl) (fun _ _ _ h => h) (by kernel_rfl) (fun _ => by kernel_rfl) (fun u hu => correction_any k B T M C u (hkd.loc hu) hb) ?_
  refine ay_call 3 131 #[.agg #[.int .i64 ((withE divE (wayE (spdE t) k) (limE ((x, y), 0) 1000 20000000 2)).1.1), .int .i64 ((withE divE (wayE (spdE t) k) (limE ((x, y), 0) 1000 20000000 2)).1.2), .int .i64 ((withE divE (wayE (spdE t) k) (limE ((x, y), 0) 1000 20000000 2)).2)], .agg #[.int .i64 ((corrE k B T M C).1.1), .int .i64 ((corrE k B T M C).1.2), .int .i64 ((corrE k B T M C).2)]] (.agg #[.int .i64 ((withE subW (withE divE (wayE (spdE t) k) (limE ((x, y), 0) 1000 20000000 2)) (corrE k B T M C)).1.1), .int .i64 ((withE subW (withE divE (wayE (spdE t) k) (limE ((x, y), 0) 1000 20000000 2)) (corrE k B T M C)).1.2), .int .i64 ((withE subW (withE divE (wayE (spdE t) k) (limE ((x, y), 0) 1000 20000000 2)) (corrE k B T M C)).2)]) HB rfl (by kernel_rfl) (by kernel_rfl) (by kernel_rfl) (fun _ _ _ h => h) (by kernel_rfl) (fun _ => by kernel_rfl) (fun u hu => minus_any ((withE divE (wayE (spdE t) k) (limE ((x, y), 0) 1000 20000000 2)).1.1) ((withE divE (wayE (spdE t) k) (limE ((x, y), 0) 1000 20000000 2)).1.2) ((withE divE (wayE (spdE t) k) (limE ((x, y), 0) 1000 20000000 2)).2) ((corrE k B T M C).1.1) ((corrE k B T M C).1.2) ((corrE k B T M C).2) u (okC.two (ok_with ok_div _ _) (ok_corr hb))) ?_
  refine ay_call 4 84 #[.agg #[.int .i64 ((withE subW (withE divE (wayE (spdE t) k) (limE ((x, y), 0) 1000 20000000 2)) (corrE k B T M C)).1.1), .int .i64 ((withE subW (withE divE (wayE (spdE t) k) (limE ((x, y), 0) 1000 20000000 2)) (corrE k B T M C)).1.2), .int .i64 ((withE subW (withE divE (wayE (spdE t) k) (limE ((x, y), 0) 1000 20000000 2)) (corrE k B T M C)).2)], .int .i64 1, .int .i64 12000000, .int .i64 7] (.agg #[.int .i64 ((limE (withE subW (withE divE (wayE (spdE t) k) (limE ((x, y), 0) 1000 20000000 2)) (corrE k B T M C)) 1 12000000 7).1.1), .int .i64 ((limE (withE subW (withE divE (wayE (spdE t) k) (limE ((x, y), 0) 1000 20000000 2)) (corrE k B T M C)) 1 12000000 7).1.2), .int .i64 ((limE (withE subW (withE divE (wayE (spdE t) k) (limE ((x, y), 0) 1000 20000000 2)) (corrE k B T M C)) 1 12000000 7).2)]) HB rfl (by kernel_rfl) (by kernel_rfl) (by kernel_rfl) (fun _ _ _ h => h) (by kernel_rfl) (fun _ => by kernel_rfl) (fun u hu => limited_any ((withE subW (withE divE (wayE (spdE t) k) (limE ((x, y), 0) 1000 20000000 2)) (corrE k B T M C)).1.1) ((withE subW (withE divE (wayE (spdE t) k) (limE ((x, y), 0) 1000 20000000 2)) (corrE k B T M C)).1.2) ((withE subW (withE divE (wayE (spdE t) k) (limE ((x, y), 0) 1000 20000000 2)) (corrE k B T M C)).2) 1 12000000 7 u) ?_
  refine ad_one 5 HL27 (by kernel_rfl) (bs_store 125 (.tmp 6) (.tmp 25) 1 g7 0 125 [.int .i64 0, .int .i64 0, .int .i64 0] [.int .i64 ((limE (withE subW (withE divE (wayE (spdE t) k) (limE ((x, y), 0) 1000 20000000 2)) (corrE k B T M C)) 1 12000000 7).1.1), .int .i64 ((limE (withE subW (withE divE (wayE (spdE t) k) (limE ((x, y), 0) 1000 20000000 2)) (corrE k B T M C)) 1 12000000 7).1.2), .int .i64 ((limE (withE subW (withE divE (wayE (spdE t) k) (limE ((x, y), 0) 1000 20000000 2)) (corrE k B T M C)) 1 12000000 7).2)] [.int .i64 ((limE (withE subW (withE divE (wayE (spdE t) k) (limE ((x, y), 0) 1000 20000000 2)) (corrE k B T M C)) 1 12000000 7).1.1), .int .i64 ((limE (withE subW (withE divE (wayE (spdE t) k) (limE ((x, y), 0) 1000 20000000 2)) (corrE k B T M C)) 1 12000000 7).1.2), .int .i64 ((limE (withE subW (withE divE (wayE (spdE t) k) (limE ((x, y), 0) 1000 20000000 2)) (corrE k B T M C)) 1 12000000 7).2)] [(g20, 125, [.int .i64 ((withE divE (wayE (spdE t) k) (limE ((x, y), 0) 1000 20000000 2)).1.1), .int .i64 ((withE divE (wayE (spdE t) k) (limE ((x, y), 0) 1000 20000000 2)).1.2), .int .i64 ((withE divE (wayE (spdE t) k) (limE ((x, y), 0) 1000 20000000 2)).2)]), (g7, 125, [.int .i64 ((limE (withE subW (withE divE (wayE (spdE t) k) (limE ((x, y), 0) 1000 20000000 2)) (corrE k B T M C)) 1 12000000 7).1.1), .int .i64 ((limE (withE subW (withE divE (wayE (spdE t) k) (limE ((x, y), 0) 1000 20000000 2)) (corrE k B T M C)) 1 12000000 7).1.2), .int .i64 ((limE (withE subW (withE divE (wayE (spdE t) k) (limE ((x, y), 0) 1000 20000000 2)) (corrE k B T M C)) 1 12000000 7).2)]), (g4, 55, [.int .i64 x, .int .i64 y]), (g1, 64, [.int .i64 k, .int .i64 B, .int .i64 T, .int .i64 M, .int .i64 C])] HB rfl (by kernel_rfl) rfl (by kernel_rfl) (by kernel_rfl) rfl (by kernel_rfl) (by kernel_rfl) (Nat.le_of_ble_eq_true rfl) rfl rfl (List.Sublist.cons_cons _ (List.Sublist.cons _ (List.Sublist.cons_cons _ (List.Sublist.cons_cons _ List.Sublist.slnil)))) ?_)
  intro w35 HL36
  clear HL27
  refine ad_done HL36 (by kernel_rfl) (fun w38 HL37 => ?_)
  clear HL36
  refine aw_n_then ?_
  refine aw_ret ?_
  refine aw_end (.agg #[.int .i64 ((limE (withE subW (withE divE (wayE (spdE t) k) (limE ((x, y), 0) 1000 20000000 2)) (corrE k B T M C)) 1 12000000 7).1.1), .int .i64 ((limE (withE subW (withE divE (wayE (spdE t) k) (limE ((x, y), 0) 1000 20000000 2)) (corrE k B T M C)) 1 12000000 7).1.2), .int .i64 ((limE (withE subW (withE divE (wayE (spdE t) k) (limE ((x, y), 0) 1000 20000000 2)) (corrE k B T M C)) 1 12000000 7).2)]) (by kernel_rfl) (res_c Tryd.results76 (by kernel_rfl) (loc_var HL37 (i := 1) rfl Tryd.underlying125 rfl (by kernel_rfl))) ?_
  exact ⟨by rw [lenV, if_pos hb]; rfl, HL37.bel⟩

set_option maxRecDepth 100000 in
set_option maxHeartbeats 2000000 in
theorem length_no (k B T M C x y t : Int) (w : World) (hkd : KdL w) (hI : I64 x ∧ I64 y) (hb : ¬ bdB k B T M C = true) : Calls Tryd.prog 76 #[.agg #[.int .i64 k, .int .i64 B, .int .i64 T, .int .i64 M, .int .i64 C], .agg #[.int .i64 x, .int .i64 y], .int .i64 t] w fun r w' => r = .returned (calV (lenV (spdE t) k B T M C (x, y))) ∧ Below w.heap.size w w' := by
  refine calls_of_wp Tryd.func76 rfl ?_
  refine Boxw.out (ax_in ?_)
  have HB : Array.size ((#[.agg #[.int .i64 k, .int .i64 B, .int .i64 T, .int .i64 M, .int .i64 C], .agg #[.int .i64 x, .int .i64 y], .int .i64 t] : Array Value) ++ Array.replicate (Func.ntmps Tryd.f76 - Array.size (#[.agg #[.int .i64 k, .int .i64 B, .int .i64 T, .int .i64 M, .int .i64 C], .agg #[.int .i64 x, .int .i64 y], .int .i64 t] : Array Value)) undef) = 26 := by kernel_rfl
  have HL0 := Loc.start w
  refine aw_seq ?_
  refine aw_reg ?_
  refine ax_new 64 [.int .i64 k, .int .i64 B, .int .i64 T, .int .i64 M, .int .i64 C] HB HL0 (by kernel_rfl) (by kernel_rfl) ?_
  intro g1 w2 HL3
  clear HL0
  refine ax_new 55 [.int .i64 x, .int .i64 y] HB HL3 (by kernel_rfl) (by kernel_rfl) ?_
  intro g4 w5 HL6
  clear HL3
  refine ax_new 125 [.int .i64 0, .int .i64 0, .int .i64 0] HB HL6 (by kernel_rfl) (by kernel_rfl) ?_
  intro g7 w8 HL9
  clear HL6
  refine aw_nil ?_
  refine aw_n_then ?_
  refine aw_seq ?_
  refine aw_seq ?_
  refine aw_reg ?_
  refine ax_mid 64 (.tmp 3) 2 g1 0 64 [.int .i64 k, .int .i64 B, .int .i64 T, .int .i64 M, .int .i64 C] [.int .i64 k, .int .i64 B, .int .i64 T, .int .i64 M, .int .i64 C] _ HB HL9 (by kernel_rfl) rfl (by kernel_rfl) rfl rfl Tryd.underlying64 rfl (by kernel_rfl) ?_
  refine ax_call 78 #[.agg #[.int .i64 k, .int .i64 B, .int .i64 T, .int .i64 M, .int .i64 C]] (.int .i64 2) HB HL9 (by kernel_rfl) (by kernel_rfl) ((by have h0 := Check_any k B T M C w8; rw [if_neg hb] at h0; exact h0)) ?_
  intro w10 HL11
  clear HL9
  refine ax_val (v := .int .i64 2) (.int .i64 2) HB (by kernel_rfl) (by kernel_rfl) (rfl) ?_
  refine aw_nil ?_
  refine aw_n_then ?_
  refine aw_seq ?_
  refine aw_reg ?_
  refine ax_val (v := .int .i64 2) (.int .i64 2) HB (by kernel_rfl) (by kernel_rfl) (rfl) ?_
  refine ax_val (v := .bool true) (.bool true) HB (by kernel_rfl) (by kernel_rfl) (rfl) ?_
  refine aw_nil ?_
  refine aw_n_then ?_
  refine ax_yes HB (by kernel_rfl) ?_
  refine aw_seq ?_
  refine aw_reg ?_
  refine ax_val (v := .int .i64 2) (.int .i64 2) HB (by kernel_rfl) (by kernel_rfl) (rfl) ?_
  refine ax_call 130 #[.int .i64 2] (.agg #[.int .i64 0, .int .i64 0, .int .i64 2]) HB HL11 (by kernel_rfl) (by kernel_rfl) (failed_any 2 w10) ?_
  intro w12 HL13
  clear HL11
  refine ax_store 125 (.tmp 6) (.tmp 14) 0 g7 0 125 [.int .i64 0, .int .i64 0, .int .i64 0] [.int .i64 0, .int .i64 0, .int .i64 2] [.int .i64 0, .int .i64 0, .int .i64 2] [(g7, 125, [.int .i64 0, .int .i64 0, .int .i64 2]), (g4, 55, [.int .i64 x, .int .i64 y]), (g1, 64, [.int .i64 k, .int .i64 B, .int .i64 T, .int .i64 M, .int .i64 C])] HB HL13 (by kernel_rfl) rfl (by kernel_rfl) (by kernel_rfl) rfl (by kernel_rfl) (by kernel_rfl) (Nat.le_of_ble_eq_true rfl) rfl rfl ?_
  intro w14 HL15
  clear HL13
  refine aw_nil ?_
  refine aw_n_then ?_
  refine aw_ret ?_
  refine aw_r_then ?_
  refine aw_end (.agg #[.int .i64 0, .int .i64 0, .int .i64 2]) (by kernel_rfl) (res_c Tryd.results76 (by kernel_rfl) (loc_var HL15 (i := 0) rfl Tryd.underlying125 rfl (by kernel_rfl))) ?_
  exact ⟨by rw [lenV, if_neg hb]; rfl, HL15.bel⟩

theorem length_any (k B T M C x y t : Int) (w : World) (hkd : KdL w) (hI : I64 x ∧ I64 y) : Calls Tryd.prog 76 #[.agg #[.int .i64 k, .int .i64 B, .int .i64 T, .int .i64 M, .int .i64 C], .agg #[.int .i64 x, .int .i64 y], .int .i64 t] w fun r w' => r = .returned (calV (lenV (spdE t) k B T M C (x, y))) ∧ Below w.heap.size w w' := by
  by_cases hb : bdB k B T M C = true
  · exact length_yes k B T M C x y t w hkd hI hb
  · exact length_no k B T M C x y t w hkd hI hb
set_option maxRecDepth 100000 in
set_option maxHeartbeats 2000000 in
theorem result_any (x y e : Int) (w : World) : Calls Tryd.prog 77 #[.agg #[.int .i64 x, .int .i64 y, .int .i64 e]] w fun r w' => r = .returned (.tuple #[.agg #[.int .i64 x, .int .i64 y], .int .i64 e]) ∧ Below w.heap.size w w' := by
  refine calls_of_wp Tryd.func77 rfl ?_
  refine Boxw.out (ax_in ?_)
  have HB : Array.size ((#[.agg #[.int .i64 x, .int .i64 y, .int .i64 e]] : Array Value) ++ Array.replicate (Func.ntmps Tryd.f77 - Array.size (#[.agg #[.int .i64 x, .int .i64 y, .int .i64 e]] : Array Value)) undef) = 9 := by kernel_rfl
  have HL0 := Loc.start w
  refine aw_seq ?_
  refine aw_reg ?_
  refine ax_new 125 [.int .i64 x, .int .i64 y, .int .i64 e] HB HL0 (by kernel_rfl) (by kernel_rfl) ?_
  intro g1 w2 HL3
  clear HL0
  refine ax_new 55 [.int .i64 0, .int .i64 0] HB HL3 (by kernel_rfl) (by kernel_rfl) ?_
  intro g4 w5 HL6
  clear HL3
  refine ax_val (v := .int .i64 0) (.int .i64 0) HB (by kernel_rfl) (by kernel_rfl) (rfl) ?_
  refine aw_nil ?_
  refine aw_n_then ?_
  refine aw_seq ?_
  refine ad_start [(g1, 125, [.int .i64 x, .int .i64 y, .int .i64 e])] HL6 (by kernel_rfl) (List.Sublist.cons _ (List.Sublist.cons_cons _ List.Sublist.slnil)) rfl ?_
  intro w8 HL7
  clear HL6
  refine ay_val (v := .pointer (some ⟨g1, 0, none⟩)) 0 (.pointer (some ⟨g1, 0, none⟩)) HB rfl (by kernel_rfl) (by kernel_rfl) (by kernel_rfl) (fun _ _ _ h => h) (by kernel_rfl) (fun _ _ => by kernel_rfl) (rfl) ?_
  refine ay_val (v := .pointer (some ⟨g1, 0, none⟩)) 1 (.pointer (some ⟨g1, 0, none⟩)) HB rfl (by kernel_rfl) (by kernel_rfl) (by kernel_rfl) (fun _ _ _ h => h) (by kernel_rfl) (fun _ _ => by kernel_rfl) (rfl) ?_
  refine ay_mid 2 55 (.tmp 5) 0 g1 0 125 [.int .i64 x, .int .i64 y, .int .i64 e] [.int .i64 x, .int .i64 y] _ HB rfl (by kernel_rfl) (by kernel_rfl) (by kernel_rfl) (fun _ _ _ h => h) (by kernel_rfl) rfl (by kernel_rfl) rfl rfl Tryd.underlying55 rfl (by kernel_rfl) ?_
  refine ay_val (v := .pointer (some ⟨g1, 2, none⟩)) 3 (.pointer (some ⟨g1, 2, none⟩)) HB rfl (by kernel_rfl) (by kernel_rfl) (by kernel_rfl) (fun _ _ _ h => h) (by kernel_rfl) (fun _ _ => by kernel_rfl) (rfl) ?_
  refine ay_load 4 25 (.tmp 7) 0 g1 2 125 [.int .i64 x, .int .i64 y, .int .i64 e] (.int .i64 e) _ HB rfl (by kernel_rfl) (by kernel_rfl) (by kernel_rfl) (fun _ _ _ h => h) (by kernel_rfl) rfl (by kernel_rfl) rfl rfl Tryd.underlying25 rfl ?_
  refine ad_one 5 HL7 (by kernel_rfl) (bs_store 55 (.tmp 2) (.tmp 6) 0 g4 0 55 [.int .i64 0, .int .i64 0] [.int .i64 x, .int .i64 y] [.int .i64 x, .int .i64 y] [(g4, 55, [.int .i64 x, .int .i64 y]), (g1, 125, [.int .i64 x, .int .i64 y, .int .i64 e])] HB rfl (by kernel_rfl) rfl (by kernel_rfl) (by kernel_rfl) rfl (by kernel_rfl) (by kernel_rfl) (Nat.le_of_ble_eq_true rfl) rfl rfl (List.Sublist.cons _ (List.Sublist.cons_cons _ List.Sublist.slnil)) ?_)
  intro w9 HL10
  clear HL7
  refine ay_val (v := .int .i64 e) 6 (.int .i64 e) HB rfl (by kernel_rfl) (by kernel_rfl) (by kernel_rfl) (fun _ _ _ h => h) (by kernel_rfl) (fun _ _ => by kernel_rfl) (rfl) ?_
  refine ad_done HL10 (by kernel_rfl) (fun w12 HL11 => ?_)
  clear HL10
  refine aw_n_then ?_
  refine aw_ret ?_
  refine aw_end (.tuple #[.agg #[.int .i64 x, .int .i64 y], .int .i64 e]) (by kernel_rfl) (res_ct Tryd.results77 (by kernel_rfl) (by kernel_rfl) (loc_var HL11 (i := 0) rfl Tryd.underlying55 rfl (by kernel_rfl))) ?_
  exact ⟨rfl, HL11.bel⟩

set_option maxRecDepth 100000 in
set_option maxHeartbeats 2000000 in
theorem Length_any (k B T M C x y t : Int) (w : World) (hkd : KdL w) (hI : I64 x ∧ I64 y) : Calls Tryd.prog 33 #[.agg #[.int .i64 k, .int .i64 B, .int .i64 T, .int .i64 M, .int .i64 C], .agg #[.int .i64 x, .int .i64 y], .int .i64 t] w fun r w' => r = .returned (.tuple #[.agg #[.int .i64 ((lenV (spdE t) k B T M C (x, y)).1.1), .int .i64 ((lenV (spdE t) k B T M C (x, y)).1.2)], .int .i64 ((lenV (spdE t) k B T M C (x, y)).2)]) ∧ Below w.heap.size w w' := by
  refine calls_of_wp Tryd.func33 rfl ?_
  refine Boxw.out (ax_in ?_)
  have HB : Array.size ((#[.agg #[.int .i64 k, .int .i64 B, .int .i64 T, .int .i64 M, .int .i64 C], .agg #[.int .i64 x, .int .i64 y], .int .i64 t] : Array Value) ++ Array.replicate (Func.ntmps Tryd.f33 - Array.size (#[.agg #[.int .i64 k, .int .i64 B, .int .i64 T, .int .i64 M, .int .i64 C], .agg #[.int .i64 x, .int .i64 y], .int .i64 t] : Array Value)) undef) = 15 := by kernel_rfl
  have HL0 := Loc.start w
  refine aw_seq ?_
  refine aw_reg ?_
  refine ax_new 64 [.int .i64 k, .int .i64 B, .int .i64 T, .int .i64 M, .int .i64 C] HB HL0 (by kernel_rfl) (by kernel_rfl) ?_
  intro g1 w2 HL3
  clear HL0
  refine ax_new 55 [.int .i64 x, .int .i64 y] HB HL3 (by kernel_rfl) (by kernel_rfl) ?_
  intro g4 w5 HL6
  clear HL3
  refine ax_new 55 [.int .i64 0, .int .i64 0] HB HL6 (by kernel_rfl) (by kernel_rfl) ?_
  intro g7 w8 HL9
  clear HL6
  refine ax_val (v := .int .i64 0) (.int .i64 0) HB (by kernel_rfl) (by kernel_rfl) (rfl) ?_
  refine aw_nil ?_
  refine aw_n_then ?_
  refine aw_seq ?_
  refine aw_reg ?_
  refine ax_mid 64 (.tmp 3) 2 g1 0 64 [.int .i64 k, .int .i64 B, .int .i64 T, .int .i64 M, .int .i64 C] [.int .i64 k, .int .i64 B, .int .i64 T, .int .i64 M, .int .i64 C] _ HB HL9 (by kernel_rfl) rfl (by kernel_rfl) rfl rfl Tryd.underlying64 rfl (by kernel_rfl) ?_
  refine ax_mid 55 (.tmp 4) 1 g4 0 55 [.int .i64 x, .int .i64 y] [.int .i64 x, .int .i64 y] _ HB HL9 (by kernel_rfl) rfl (by kernel_rfl) rfl rfl Tryd.underlying55 rfl (by kernel_rfl) ?_
  refine ax_val (v := .int .i64 t) (.int .i64 t) HB (by kernel_rfl) (by kernel_rfl) (rfl) ?_
  refine ax_call 76 #[.agg #[.int .i64 k, .int .i64 B, .int .i64 T, .int .i64 M, .int .i64 C], .agg #[.int .i64 x, .int .i64 y], .int .i64 t] (.agg #[.int .i64 ((lenV (spdE t) k B T M C (x, y)).1.1), .int .i64 ((lenV (spdE t) k B T M C (x, y)).1.2), .int .i64 ((lenV (spdE t) k B T M C (x, y)).2)]) HB HL9 (by kernel_rfl) (by kernel_rfl) (length_any k B T M C x y t w8 (hkd.loc HL9) hI) ?_
  intro w10 HL11
  clear HL9
  refine ax_call 77 #[.agg #[.int .i64 ((lenV (spdE t) k B T M C (x, y)).1.1), .int .i64 ((lenV (spdE t) k B T M C (x, y)).1.2), .int .i64 ((lenV (spdE t) k B T M C (x, y)).2)]] (.tuple #[.agg #[.int .i64 ((lenV (spdE t) k B T M C (x, y)).1.1), .int .i64 ((lenV (spdE t) k B T M C (x, y)).1.2)], .int .i64 ((lenV (spdE t) k B T M C (x, y)).2)]) HB HL11 (by kernel_rfl) (by kernel_rfl) (result_any ((lenV (spdE t) k B T M C (x, y)).1.1) ((lenV (spdE t) k B T M C (x, y)).1.2) ((lenV (spdE t) k B T M C (x, y)).2) w10) ?_
  intro w12 HL13
  clear HL11
  refine ax_val (v := .agg #[.int .i64 ((lenV (spdE t) k B T M C (x, y)).1.1), .int .i64 ((lenV (spdE t) k B T M C (x, y)).1.2)]) (.agg #[.int .i64 ((lenV (spdE t) k B T M C (x, y)).1.1), .int .i64 ((lenV (spdE t) k B T M C (x, y)).1.2)]) HB (by kernel_rfl) (by kernel_rfl) (rfl) ?_
  refine ax_val (v := .int .i64 ((lenV (spdE t) k B T M C (x, y)).2)) (.int .i64 ((lenV (spdE t) k B T M C (x, y)).2)) HB (by kernel_rfl) (by kernel_rfl) (rfl) ?_
  refine ax_store 55 (.tmp 6) (.tmp 13) 0 g7 0 55 [.int .i64 0, .int .i64 0] [.int .i64 ((lenV (spdE t) k B T M C (x, y)).1.1), .int .i64 ((lenV (spdE t) k B T M C (x, y)).1.2)] [.int .i64 ((lenV (spdE t) k B T M C (x, y)).1.1), .int .i64 ((lenV (spdE t) k B T M C (x, y)).1.2)] [(g7, 55, [.int .i64 ((lenV (spdE t) k B T M C (x, y)).1.1), .int .i64 ((lenV (spdE t) k B T M C (x, y)).1.2)]), (g4, 55, [.int .i64 x, .int .i64 y]), (g1, 64, [.int .i64 k, .int .i64 B, .int .i64 T, .int .i64 M, .int .i64 C])] HB HL13 (by kernel_rfl) rfl (by kernel_rfl) (by kernel_rfl) rfl (by kernel_rfl) (by kernel_rfl) (Nat.le_of_ble_eq_true rfl) rfl rfl ?_
  intro w14 HL15
  clear HL13
  refine ax_val (v := .int .i64 ((lenV (spdE t) k B T M C (x, y)).2)) (.int .i64 ((lenV (spdE t) k B T M C (x, y)).2)) HB (by kernel_rfl) (by kernel_rfl) (rfl) ?_
  refine aw_nil ?_
  refine aw_n_then ?_
  refine aw_ret ?_
  refine aw_end (.tuple #[.agg #[.int .i64 ((lenV (spdE t) k B T M C (x, y)).1.1), .int .i64 ((lenV (spdE t) k B T M C (x, y)).1.2)], .int .i64 ((lenV (spdE t) k B T M C (x, y)).2)]) (by kernel_rfl) (res_ct Tryd.results33 (by kernel_rfl) (by kernel_rfl) (loc_var HL15 (i := 0) rfl Tryd.underlying55 rfl (by kernel_rfl))) ?_
  exact ⟨rfl, HL15.bel⟩

set_option maxRecDepth 100000 in
set_option maxHeartbeats 2000000 in
theorem Pitch_yes (k B T M C x y t : Int) (w : World) (hkd : KdL w) (hI : I64 x ∧ I64 y) (hb : bdB k B T M C = true) : Calls Tryd.prog 34 #[.agg #[.int .i64 k, .int .i64 B, .int .i64 T, .int .i64 M, .int .i64 C], .agg #[.int .i64 x, .int .i64 y], .int .i64 t] w fun r w' => r = .returned (.tuple #[.agg #[.int .i64 ((pitV (spdE t) k B T M C (x, y)).1.1), .int .i64 ((pitV (spdE t) k B T M C (x, y)).1.2)], .int .i64 ((pitV (spdE t) k B T M C (x, y)).2)]) ∧ Below w.heap.size w w' := by
  refine calls_of_wp Tryd.func34 rfl ?_
  refine Boxw.out (ax_in ?_)
  have HB : Array.size ((#[.agg #[.int .i64 k, .int .i64 B, .int .i64 T, .int .i64 M, .int .i64 C], .agg #[.int .i64 x, .int .i64 y], .int .i64 t] : Array Value) ++ Array.replicate (Func.ntmps Tryd.f34 - Array.size (#[.agg #[.int .i64 k, .int .i64 B, .int .i64 T, .int .i64 M, .int .i64 C], .agg #[.int .i64 x, .int .i64 y], .int .i64 t] : Array Value)) undef) = 30 := by kernel_rfl
  have HL0 := Loc.start w
  refine aw_seq ?_
  refine aw_reg ?_
  refine ax_new 64 [.int .i64 k, .int .i64 B, .int .i64 T, .int .i64 M, .int .i64 C] HB HL0 (by kernel_rfl) (by kernel_rfl) ?_
  intro g1 w2 HL3
  clear HL0
  refine ax_new 55 [.int .i64 x, .int .i64 y] HB HL3 (by kernel_rfl) (by kernel_rfl) ?_
  intro g4 w5 HL6
  clear HL3
  refine ax_new 55 [.int .i64 0, .int .i64 0] HB HL6 (by kernel_rfl) (by kernel_rfl) ?_
  intro g7 w8 HL9
  clear HL6
  refine ax_val (v := .int .i64 0) (.int .i64 0) HB (by kernel_rfl) (by kernel_rfl) (rfl) ?_
  refine aw_nil ?_
  refine aw_n_then ?_
  refine aw_seq ?_
  refine aw_seq ?_
  refine aw_reg ?_
  refine ax_mid 64 (.tmp 3) 2 g1 0 64 [.int .i64 k, .int .i64 B, .int .i64 T, .int .i64 M, .int .i64 C] [.int .i64 k, .int .i64 B, .int .i64 T, .int .i64 M, .int .i64 C] _ HB HL9 (by kernel_rfl) rfl (by kernel_rfl) rfl rfl Tryd.underlying64 rfl (by kernel_rfl) ?_
  refine ax_call 78 #[.agg #[.int .i64 k, .int .i64 B, .int .i64 T, .int .i64 M, .int .i64 C]] (.int .i64 0) HB HL9 (by kernel_rfl) (by kernel_rfl) ((by have h0 := Check_any k B T M C w8; rw [if_pos hb] at h0; exact h0)) ?_
  intro w10 HL11
  clear HL9
  refine ax_val (v := .int .i64 0) (.int .i64 0) HB (by kernel_rfl) (by kernel_rfl) (rfl) ?_
  refine aw_nil ?_
  refine aw_n_then ?_
  refine aw_seq ?_
  refine aw_reg ?_
  refine ax_val (v := .int .i64 0) (.int .i64 0) HB (by kernel_rfl) (by kernel_rfl) (rfl) ?_
  refine ax_val (v := .bool false) (.bool false) HB (by kernel_rfl) (by kernel_rfl) (rfl) ?_
  refine aw_nil ?_
  refine aw_n_then ?_
  refine ax_no HB (by kernel_rfl) ?_
  refine aw_skip0 ?_
  refine aw_n_then ?_
  refine aw_seq ?_
  refine ad_start [(g7, 55, [.int .i64 0, .int .i64 0]), (g4, 55, [.int .i64 x, .int .i64 y]), (g1, 64, [.int .i64 k, .int .i64 B, .int .i64 T, .int .i64 M, .int .i64 C])] HL11 (by kernel_rfl) (List.Sublist.cons_cons _ (List.Sublist.cons_cons _ (List.Sublist.cons_cons _ List.Sublist.slnil))) rfl ?_
  intro w13 HL12
  clear HL11
  refine ay_mid 0 55 (.tmp 4) 1 g4 0 55 [.int .i64 x, .int .i64 y] [.int .i64 x, .int .i64 y] _ HB rfl (by kernel_rfl) (by kernel_rfl) (by kernel_rfl) (fun _ _ _ h => h) (by kernel_rfl) rfl (by kernel_rfl) rfl rfl Tryd.underlying55 rfl (by kernel_rfl) ?_
  refine ay_call 1 79 #[.agg #[.int .i64 x, .int .i64 y], .int .i64 1, .int .i64 12000000] (.agg #[.int .i64 ((limE ((x, y), 0) 1 12000000 2).1.1), .int .i64 ((limE ((x, y), 0) 1 12000000 2).1.2), .int .i64 ((limE ((x, y), 0) 1 12000000 2).2)]) HB rfl (by kernel_rfl) (by kernel_rfl) (by kernel_rfl) (fun _ _ _ h => h) (by kernel_rfl) (fun _ => by kernel_rfl) (fun u hu => given_any x y 1 12000000 u hI) ?_
  refine ay_mid 2 64 (.tmp 3) 2 g1 0 64 [.int .i64 k, .int .i64 B, .int .i64 T, .int .i64 M, .int .i64 C] [.int .i64 k, .int .i64 B, .int .i64 T, .int .i64 M, .int .i64 C] _ HB rfl (by kernel_rfl) (by kernel_rfl) (by kernel_rfl) (fun _ _ _ h => h) (by kernel_rfl) rfl (by kernel_rfl) rfl rfl Tryd.underlying64 rfl (by kernel_rfl) ?_
  refine ay_call 3 81 #[.agg #[.int .i64 k, .int .i64 B, .int .i64 T, .int .i64 M, .int .i64 C]] (.agg #[.int .i64 ((corrE k B T M C).1.1), .int .i64 ((corrE k B T M C).1.2), .int .i64 ((corrE k B T M C).2)]) HB rfl (by kernel_rfl) (by kernel_rfl) (by kernel_rfl) (fun _ _ _ h => h) (by kernel_rfl) (fun _ => by kernel_rfl) (fun u hu => correction_any k B T M C u (hkd.loc hu) hb) ?_
  refine ay_call 4 80 #[.agg #[.int .i64 ((limE ((x, y), 0) 1 12000000 2).1.1), .int .i64 ((limE ((x, y), 0) 1 12000000 2).1.2), .int .i64 ((limE ((x, y), 0) 1 12000000 2).2)], .agg #[.int .i64 ((corrE k B T M C).1.1), .int .i64 ((corrE k B T M C).1.2), .int .i64 ((corrE k B T M C).2)]] (.agg #[.int .i64 ((withE addW (limE ((x, y), 0) 1 12000000 2) (corrE k B T M C)).1.1), .int .i64 ((withE addW (limE ((x, y), 0) 1 12000000 2) (corrE k B T M C)).1.2), .int .i64 ((withE addW (limE ((x, y), 0) 1 12000000 2) (corrE k B T M C)).2)]) HB rfl (by kernel_rfl) (by kernel_rfl) (by kernel_rfl) (fun _ _ _ h => h) (by kernel_rfl) (fun _ => by kernel_rfl) (fun u hu => plus_any ((limE ((x, y), 0) 1 12000000 2).1.1) ((limE ((x, y), 0) 1 12000000 2).1.2) ((limE ((x, y), 0) 1 12000000 2).2) ((corrE k B T M C).1.1) ((corrE k B T M C).1.2) ((corrE k B T M C).2) u (okC.two (ok_lim (c := ((x, y), 0)) hI _ _ _) (ok_corr hb))) ?_
  refine ad_one 5 HL12 (by kernel_rfl) (bs_new 125 [.int .i64 0, .int .i64 0, .int .i64 0] HB rfl (by kernel_rfl) (fun _ => by kernel_rfl) (List.Sublist.cons_cons _ (List.Sublist.cons_cons _ (List.Sublist.cons_cons _ List.Sublist.slnil))) ?_)
  intro g20 w21 HL22
  clear HL12
  refine ad_one 6 HL22 (by kernel_rfl) (bs_store 125 (.tmp 9) (.tmp 20) 0 g20 0 125 [.int .i64 0, .int .i64 0, .int .i64 0] [.int .i64 ((withE addW (limE ((x, y), 0) 1 12000000 2) (corrE k B T M C)).1.1), .int .i64 ((withE addW (limE ((x, y), 0) 1 12000000 2) (corrE k B T M C)).1.2), .int .i64 ((withE addW (limE ((x, y), 0) 1 12000000 2) (corrE k B T M C)).2)] [.int .i64 ((withE addW (limE ((x, y), 0) 1 12000000 2) (corrE k B T M C)).1.1), .int .i64 ((withE addW (limE ((x, y), 0) 1 12000000 2) (corrE k B T M C)).1.2), .int .i64 ((withE addW (limE ((x, y), 0) 1 12000000 2) (corrE k B T M C)).2)] [(g20, 125, [.int .i64 ((withE addW (limE ((x, y), 0) 1 12000000 2) (corrE k B T M C)).1.1), .int .i64 ((withE addW (limE ((x, y), 0) 1 12000000 2) (corrE k B T M C)).1.2), .int .i64 ((withE addW (limE ((x, y), 0) 1 12000000 2) (corrE k B T M C)).2)]), (g7, 55, [.int .i64 0, .int .i64 0]), (g4, 55, [.int .i64 x, .int .i64 y]), (g1, 64, [.int .i64 k, .int .i64 B, .int .i64 T, .int .i64 M, .int .i64 C])] HB rfl (by kernel_rfl) rfl (by kernel_rfl) (by kernel_rfl) rfl (by kernel_rfl) (by kernel_rfl) (Nat.le_of_ble_eq_true rfl) rfl rfl (List.Sublist.cons _ (List.Sublist.cons_cons _ (List.Sublist.cons_cons _ (List.Sublist.cons_cons _ List.Sublist.slnil)))) ?_)
  intro w23 HL24
  clear HL22
  refine ad_done HL24 (by kernel_rfl) (fun w26 HL25 => ?_)
  clear HL24
  refine aw_n_then ?_
  refine aw_seq ?_
  refine ad_start [(g20, 125, [.int .i64 ((withE addW (limE ((x, y), 0) 1 12000000 2) (corrE k B T M C)).1.1), .int .i64 ((withE addW (limE ((x, y), 0) 1 12000000 2) (corrE k B T M C)).1.2), .int .i64 ((withE addW (limE ((x, y), 0) 1 12000000 2) (corrE k B T M C)).2)]), (g4, 55, [.int .i64 x, .int .i64 y]), (g1, 64, [.int .i64 k, .int .i64 B, .int .i64 T, .int .i64 M, .int .i64 C])] HL25 (by kernel_rfl) (List.Sublist.cons_cons _ (List.Sublist.cons _ (List.Sublist.cons_cons _ (List.Sublist.cons_cons _ List.Sublist.slnil)))) rfl ?_
  intro w28 HL27
  clear HL25
  refine ay_mid 0 64 (.tmp 3) 2 g1 0 64 [.int .i64 k, .int .i64 B, .int .i64 T, .int .i64 M, .int .i64 C] [.int .i64 k, .int .i64 B, .int .i64 T, .int .i64 M, .int .i64 C] _ HB rfl (by kernel_rfl) (by kernel_rfl) (by kernel_rfl) (fun _ _ _ h => h) (by kernel_rfl) rfl (by kernel_rfl) rfl rfl Tryd.underlying64 rfl (by kernel_rfl) ?_
  refine ay_val (v := .int .i64 t) 1 (.int .i64 t) HB rfl (by kernel_rfl) (by kernel_rfl) (by kernel_rfl) (fun _ _ _ h => h) (by kernel_rfl) (fun _ _ => by kernel_rfl) (rfl) ?_
  refine ay_call 2 82 #[.agg #[.int .i64 k, .int .i64 B, .int .i64 T, .int .i64 M, .int .i64 C], .int .i64 t] (.agg #[.int .i64 ((wayE (spdE t) k).1.1), .int .i64 ((wayE (spdE t) k).1.2), .int .i64 ((wayE (spdE t) k).2)]) HB rfl (by kernel_rfl) (by kernel_rfl) (by kernel_rfl) (fun _ _ _ h => h) (by kernel_rfl) (fun _ => by kernel_rfl) (fun u hu => slowest_any k B T M C t u (hkd.loc hu) hb) ?_
  refine ay_mid 3 125 (.tmp 9) 0 g20 0 125 [.int .i64 ((withE addW (limE ((x, y), 0) 1 12000000 2) (corrE k B T M C)).1.1), .int .i64 ((withE addW (limE ((x, y), 0) 1 12000000 2) (corrE k B T M C)).1.2), .int .i64 ((withE addW (limE ((x, y), 0) 1 12000000 2) (corrE k B T M C)).2)] [.int .i64 ((withE addW (limE ((x, y), 0) 1 12000000 2) (corrE k B T M C)).1.1), .int .i64 ((withE addW (limE ((x, y), 0) 1 12000000 2) (corrE k B T M C)).1.2), .int .i64 ((withE addW (limE ((x, y), 0) 1 12000000 2) (corrE k B T M C)).2)] _ HB rfl (by kernel_rfl) (by kernel_rfl) (by kernel_rfl) (fun _ _ _ h => h) (by kernel_rfl) rfl (by kernel_rfl) rfl rfl Tryd.underlying125 rfl (by kernel_rfl) ?_
  refine ay_call 4 83 #[.agg #[.int .i64 ((wayE (spdE t) k).1.1), .int .i64 ((wayE (spdE t) k).1.2), .int .i64 ((wayE (spdE t) k).2)], .agg #[.int .i64 ((withE addW (limE ((x, y), 0) 1 12000000 2) (corrE k B T M C)).1.1), .int .i64 ((withE addW (limE ((x, y), 0) 1 12000000 2) (corrE k B T M C)).1.2), .int .i64 ((withE addW (limE ((x, y), 0) 1 12000000 2) (corrE k B T M C)).2)]] (.agg #[.int .i64 ((withE divE (wayE (spdE t) k) (withE addW (limE ((x, y), 0) 1 12000000 2) (corrE k B T M C))).1.1), .int .i64 ((withE divE (wayE (spdE t) k) (withE addW (limE ((x, y), 0) 1 12000000 2) (corrE k B T M C))).1.2), .int .i64 ((withE divE (wayE (spdE t) k) (withE addW (limE ((x, y), 0) 1 12000000 2) (corrE k B T M C))).2)]) HB rfl (by kernel_rfl) (by kernel_rfl) (by kernel_rfl) (fun _ _ _ h => h) (by kernel_rfl) (fun _ => by kernel_rfl) (fun u hu => over_any ((wayE (spdE t) k).1.1) ((wayE (spdE t) k).1.2) ((wayE (spdE t) k).2) ((withE addW (limE ((x, y), 0) 1 12000000 2) (corrE k B T M C)).1.1) ((withE addW (limE ((x, y), 0) 1 12000000 2) (corrE k B T M C)).1.2) ((withE addW (limE ((x, y), 0) 1 12000000 2) (corrE k B T M C)).2) u (okC.two (ok_way t) (ok_with ok_add _ _))) ?_
  refine ay_call 5 84 #[.agg #[.int .i64 ((withE divE (wayE (spdE t) k) (withE addW (limE ((x, y), 0) 1 12000000 2) (corrE k B T M C))).1.1), .int .i64 ((withE divE (wayE (spdE t) k) (withE addW (limE ((x, y), 0) 1 12000000 2) (corrE k B T M C))).1.2), .int .i64 ((withE divE (wayE (spdE t) k) (withE addW (limE ((x, y), 0) 1 12000000 2) (corrE k B T M C))).2)], .int .i64 1, .int .i64 200000000, .int .i64 7] (.agg #[.int .i64 ((limE (withE divE (wayE (spdE t) k) (withE addW (limE ((x, y), 0) 1 12000000 2) (corrE k B T M C))) 1 200000000 7).1.1), .int .i64 ((limE (withE divE (wayE (spdE t) k) (withE addW (limE ((x, y), 0) 1 12000000 2) (corrE k B T M C))) 1 200000000 7).1.2), .int .i64 ((limE (withE divE (wayE (spdE t) k) (withE addW (limE ((x, y), 0) 1 12000000 2) (corrE k B T M C))) 1 200000000 7).2)]) HB rfl (by kernel_rfl) (by kernel_rfl) (by kernel_rfl) (fun _ _ _ h => h) (by kernel_rfl) (fun _ => by kernel_rfl) (fun u hu => limited_any ((withE divE (wayE (spdE t) k) (withE addW (limE ((x, y), 0) 1 12000000 2) (corrE k B T M C))).1.1) ((withE divE (wayE (spdE t) k) (withE addW (limE ((x, y), 0) 1 12000000 2) (corrE k B T M C))).1.2) ((withE divE (wayE (spdE t) k) (withE addW (limE ((x, y), 0) 1 12000000 2) (corrE k B T M C))).2) 1 200000000 7 u) ?_
  refine ay_call 6 77 #[.agg #[.int .i64 ((limE (withE divE (wayE (spdE t) k) (withE addW (limE ((x, y), 0) 1 12000000 2) (corrE k B T M C))) 1 200000000 7).1.1), .int .i64 ((limE (withE divE (wayE (spdE t) k) (withE addW (limE ((x, y), 0) 1 12000000 2) (corrE k B T M C))) 1 200000000 7).1.2), .int .i64 ((limE (withE divE (wayE (spdE t) k) (withE addW (limE ((x, y), 0) 1 12000000 2) (corrE k B T M C))) 1 200000000 7).2)]] (.tuple #[.agg #[.int .i64 ((limE (withE divE (wayE (spdE t) k) (withE addW (limE ((x, y), 0) 1 12000000 2) (corrE k B T M C))) 1 200000000 7).1.1), .int .i64 ((limE (withE divE (wayE (spdE t) k) (withE addW (limE ((x, y), 0) 1 12000000 2) (corrE k B T M C))) 1 200000000 7).1.2)], .int .i64 ((limE (withE divE (wayE (spdE t) k) (withE addW (limE ((x, y), 0) 1 12000000 2) (corrE k B T M C))) 1 200000000 7).2)]) HB rfl (by kernel_rfl) (by kernel_rfl) (by kernel_rfl) (fun _ _ _ h => h) (by kernel_rfl) (fun _ => by kernel_rfl) (fun u hu => result_any ((limE (withE divE (wayE (spdE t) k) (withE addW (limE ((x, y), 0) 1 12000000 2) (corrE k B T M C))) 1 200000000 7).1.1) ((limE (withE divE (wayE (spdE t) k) (withE addW (limE ((x, y), 0) 1 12000000 2) (corrE k B T M C))) 1 200000000 7).1.2) ((limE (withE divE (wayE (spdE t) k) (withE addW (limE ((x, y), 0) 1 12000000 2) (corrE k B T M C))) 1 200000000 7).2) u) ?_
  refine ay_val (v := .agg #[.int .i64 ((limE (withE divE (wayE (spdE t) k) (withE addW (limE ((x, y), 0) 1 12000000 2) (corrE k B T M C))) 1 200000000 7).1.1), .int .i64 ((limE (withE divE (wayE (spdE t) k) (withE addW (limE ((x, y), 0) 1 12000000 2) (corrE k B T M C))) 1 200000000 7).1.2)]) 7 (.agg #[.int .i64 ((limE (withE divE (wayE (spdE t) k) (withE addW (limE ((x, y), 0) 1 12000000 2) (corrE k B T M C))) 1 200000000 7).1.1), .int .i64 ((limE (withE divE (wayE (spdE t) k) (withE addW (limE ((x, y), 0) 1 12000000 2) (corrE k B T M C))) 1 200000000 7).1.2)]) HB rfl (by kernel_rfl) (by kernel_rfl) (by kernel_rfl) (fun _ _ _ h => h) (by kernel_rfl) (fun _ _ => by kernel_rfl) (rfl) ?_
  refine ay_val (v := .int .i64 ((limE (withE divE (wayE (spdE t) k) (withE addW (limE ((x, y), 0) 1 12000000 2) (corrE k B T M C))) 1 200000000 7).2)) 8 (.int .i64 ((limE (withE divE (wayE (spdE t) k) (withE addW (limE ((x, y), 0) 1 12000000 2) (corrE k B T M C))) 1 200000000 7).2)) HB rfl (by kernel_rfl) (by kernel_rfl) (by kernel_rfl) (fun _ _ _ h => h) (by kernel_rfl) (fun _ _ => by kernel_rfl) (rfl) ?_
  refine ad_one 9 HL27 (by kernel_rfl) (bs_store 55 (.tmp 6) (.tmp 28) 1 g7 0 55 [.int .i64 0, .int .i64 0] [.int .i64 ((limE (withE divE (wayE (spdE t) k) (withE addW (limE ((x, y), 0) 1 12000000 2) (corrE k B T M C))) 1 200000000 7).1.1), .int .i64 ((limE (withE divE (wayE (spdE t) k) (withE addW (limE ((x, y), 0) 1 12000000 2) (corrE k B T M C))) 1 200000000 7).1.2)] [.int .i64 ((limE (withE divE (wayE (spdE t) k) (withE addW (limE ((x, y), 0) 1 12000000 2) (corrE k B T M C))) 1 200000000 7).1.1), .int .i64 ((limE (withE divE (wayE (spdE t) k) (withE addW (limE ((x, y), 0) 1 12000000 2) (corrE k B T M C))) 1 200000000 7).1.2)] [(g20, 125, [.int .i64 ((withE addW (limE ((x, y), 0) 1 12000000 2) (corrE k B T M C)).1.1), .int .i64 ((withE addW (limE ((x, y), 0) 1 12000000 2) (corrE k B T M C)).1.2), .int .i64 ((withE addW (limE ((x, y), 0) 1 12000000 2) (corrE k B T M C)).2)]), (g7, 55, [.int .i64 ((limE (withE divE (wayE (spdE t) k) (withE addW (limE ((x, y), 0) 1 12000000 2) (corrE k B T M C))) 1 200000000 7).1.1), .int .i64 ((limE (withE divE (wayE (spdE t) k) (withE addW (limE ((x, y), 0) 1 12000000 2) (corrE k B T M C))) 1 200000000 7).1.2)]), (g4, 55, [.int .i64 x, .int .i64 y]), (g1, 64, [.int .i64 k, .int .i64 B, .int .i64 T, .int .i64 M, .int .i64 C])] HB rfl (by kernel_rfl) rfl (by kernel_rfl) (by kernel_rfl) rfl (by kernel_rfl) (by kernel_rfl) (Nat.le_of_ble_eq_true rfl) rfl rfl (List.Sublist.cons_cons _ (List.Sublist.cons _ (List.Sublist.cons_cons _ (List.Sublist.cons_cons _ List.Sublist.slnil)))) ?_)
  intro w37 HL38
  clear HL27
  refine ay_val (v := .int .i64 ((limE (withE divE (wayE (spdE t) k) (withE addW (limE ((x, y), 0) 1 12000000 2) (corrE k B T M C))) 1 200000000 7).2)) 10 (.int .i64 ((limE (withE divE (wayE (spdE t) k) (withE addW (limE ((x, y), 0) 1 12000000 2) (corrE k B T M C))) 1 200000000 7).2)) HB rfl (by kernel_rfl) (by kernel_rfl) (by kernel_rfl) (fun _ _ _ h => h) (by kernel_rfl) (fun _ _ => by kernel_rfl) (rfl) ?_
  refine ad_done HL38 (by kernel_rfl) (fun w40 HL39 => ?_)
  clear HL38
  refine aw_n_then ?_
  refine aw_ret ?_
  refine aw_end (.tuple #[.agg #[.int .i64 ((limE (withE divE (wayE (spdE t) k) (withE addW (limE ((x, y), 0) 1 12000000 2) (corrE k B T M C))) 1 200000000 7).1.1), .int .i64 ((limE (withE divE (wayE (spdE t) k) (withE addW (limE ((x, y), 0) 1 12000000 2) (corrE k B T M C))) 1 200000000 7).1.2)], .int .i64 ((limE (withE divE (wayE (spdE t) k) (withE addW (limE ((x, y), 0) 1 12000000 2) (corrE k B T M C))) 1 200000000 7).2)]) (by kernel_rfl) (res_ct Tryd.results34 (by kernel_rfl) (by kernel_rfl) (loc_var HL39 (i := 1) rfl Tryd.underlying55 rfl (by kernel_rfl))) ?_
  exact ⟨by rw [pitV, if_pos hb]; rfl, HL39.bel⟩

set_option maxRecDepth 100000 in
set_option maxHeartbeats 2000000 in
theorem Pitch_no (k B T M C x y t : Int) (w : World) (hkd : KdL w) (hI : I64 x ∧ I64 y) (hb : ¬ bdB k B T M C = true) : Calls Tryd.prog 34 #[.agg #[.int .i64 k, .int .i64 B, .int .i64 T, .int .i64 M, .int .i64 C], .agg #[.int .i64 x, .int .i64 y], .int .i64 t] w fun r w' => r = .returned (.tuple #[.agg #[.int .i64 ((pitV (spdE t) k B T M C (x, y)).1.1), .int .i64 ((pitV (spdE t) k B T M C (x, y)).1.2)], .int .i64 ((pitV (spdE t) k B T M C (x, y)).2)]) ∧ Below w.heap.size w w' := by
  refine calls_of_wp Tryd.func34 rfl ?_
  refine Boxw.out (ax_in ?_)
  have HB : Array.size ((#[.agg #[.int .i64 k, .int .i64 B, .int .i64 T, .int .i64 M, .int .i64 C], .agg #[.int .i64 x, .int .i64 y], .int .i64 t] : Array Value) ++ Array.replicate (Func.ntmps Tryd.f34 - Array.size (#[.agg #[.int .i64 k, .int .i64 B, .int .i64 T, .int .i64 M, .int .i64 C], .agg #[.int .i64 x, .int .i64 y], .int .i64 t] : Array Value)) undef) = 30 := by kernel_rfl
  have HL0 := Loc.start w
  refine aw_seq ?_
  refine aw_reg ?_
  refine ax_new 64 [.int .i64 k, .int .i64 B, .int .i64 T, .int .i64 M, .int .i64 C] HB HL0 (by kernel_rfl) (by kernel_rfl) ?_
  intro g1 w2 HL3
  clear HL0
  refine ax_new 55 [.int .i64 x, .int .i64 y] HB HL3 (by kernel_rfl) (by kernel_rfl) ?_
  intro g4 w5 HL6
  clear HL3
  refine ax_new 55 [.int .i64 0, .int .i64 0] HB HL6 (by kernel_rfl) (by kernel_rfl) ?_
  intro g7 w8 HL9
  clear HL6
  refine ax_val (v := .int .i64 0) (.int .i64 0) HB (by kernel_rfl) (by kernel_rfl) (rfl) ?_
  refine aw_nil ?_
  refine aw_n_then ?_
  refine aw_seq ?_
  refine aw_seq ?_
  refine aw_reg ?_
  refine ax_mid 64 (.tmp 3) 2 g1 0 64 [.int .i64 k, .int .i64 B, .int .i64 T, .int .i64 M, .int .i64 C] [.int .i64 k, .int .i64 B, .int .i64 T, .int .i64 M, .int .i64 C] _ HB HL9 (by kernel_rfl) rfl (by kernel_rfl) rfl rfl Tryd.underlying64 rfl (by kernel_rfl) ?_
  refine ax_call 78 #[.agg #[.int .i64 k, .int .i64 B, .int .i64 T, .int .i64 M, .int .i64 C]] (.int .i64 2) HB HL9 (by kernel_rfl) (by kernel_rfl) ((by have h0 := Check_any k B T M C w8; rw [if_neg hb] at h0; exact h0)) ?_
  intro w10 HL11
  clear HL9
  refine ax_val (v := .int .i64 2) (.int .i64 2) HB (by kernel_rfl) (by kernel_rfl) (rfl) ?_
  refine aw_nil ?_
  refine aw_n_then ?_
  refine aw_seq ?_
  refine aw_reg ?_
  refine ax_val (v := .int .i64 2) (.int .i64 2) HB (by kernel_rfl) (by kernel_rfl) (rfl) ?_
  refine ax_val (v := .bool true) (.bool true) HB (by kernel_rfl) (by kernel_rfl) (rfl) ?_
  refine aw_nil ?_
  refine aw_n_then ?_
  refine ax_yes HB (by kernel_rfl) ?_
  refine aw_seq ?_
  refine aw_reg ?_
  refine ax_val (v := .agg #[.int .i64 0, .int .i64 0]) (.agg #[.int .i64 0, .int .i64 0]) HB (by kernel_rfl) (by kernel_rfl) (rfl) ?_
  refine ax_val (v := .int .i64 2) (.int .i64 2) HB (by kernel_rfl) (by kernel_rfl) (rfl) ?_
  refine ax_store 55 (.tmp 6) (.tmp 14) 0 g7 0 55 [.int .i64 0, .int .i64 0] [.int .i64 0, .int .i64 0] [.int .i64 0, .int .i64 0] [(g7, 55, [.int .i64 0, .int .i64 0]), (g4, 55, [.int .i64 x, .int .i64 y]), (g1, 64, [.int .i64 k, .int .i64 B, .int .i64 T, .int .i64 M, .int .i64 C])] HB HL11 (by kernel_rfl) rfl (by kernel_rfl) (by kernel_rfl) rfl (by kernel_rfl) (by kernel_rfl) (Nat.le_of_ble_eq_true rfl) rfl rfl ?_
  intro w12 HL13
  clear HL11
  refine ax_val (v := .int .i64 2) (.int .i64 2) HB (by kernel_rfl) (by kernel_rfl) (rfl) ?_
  refine aw_nil ?_
  refine aw_n_then ?_
  refine aw_ret ?_
  refine aw_r_then ?_
  refine aw_end (.tuple #[.agg #[.int .i64 0, .int .i64 0], .int .i64 2]) (by kernel_rfl) (res_ct Tryd.results34 (by kernel_rfl) (by kernel_rfl) (loc_var HL13 (i := 0) rfl Tryd.underlying55 rfl (by kernel_rfl))) ?_
  exact ⟨by rw [pitV, if_neg hb], HL13.bel⟩

theorem Pitch_any (k B T M C x y t : Int) (w : World) (hkd : KdL w) (hI : I64 x ∧ I64 y) : Calls Tryd.prog 34 #[.agg #[.int .i64 k, .int .i64 B, .int .i64 T, .int .i64 M, .int .i64 C], .agg #[.int .i64 x, .int .i64 y], .int .i64 t] w fun r w' => r = .returned (.tuple #[.agg #[.int .i64 ((pitV (spdE t) k B T M C (x, y)).1.1), .int .i64 ((pitV (spdE t) k B T M C (x, y)).1.2)], .int .i64 ((pitV (spdE t) k B T M C (x, y)).2)]) ∧ Below w.heap.size w w' := by
  by_cases hb : bdB k B T M C = true
  · exact Pitch_yes k B T M C x y t w hkd hI hb
  · exact Pitch_no k B T M C x y t w hkd hI hb
set_option maxRecDepth 100000 in
set_option maxHeartbeats 2000000 in
theorem Correction_ok (k B T M C : Int) (w : World) (hkd : KdL w) (hb : bdB k B T M C = true) : Calls Tryd.prog 85 #[.agg #[.int .i64 k, .int .i64 B, .int .i64 T, .int .i64 M, .int .i64 C]] w fun r w' => r = .returned (.tuple #[.agg #[.int .i64 ((mouthE B M C).1.1), .int .i64 ((mouthE B M C).1.2)], .agg #[.int .i64 ((endE k T).1.1), .int .i64 ((endE k T).1.2)], .int .i64 0]) ∧ Below w.heap.size w w' := by
  refine calls_of_wp Tryd.func85 rfl ?_
  refine Boxw.out (ax_in ?_)
  have HB : Array.size ((#[.agg #[.int .i64 k, .int .i64 B, .int .i64 T, .int .i64 M, .int .i64 C]] : Array Value) ++ Array.replicate (Func.ntmps Tryd.f85 - Array.size (#[.agg #[.int .i64 k, .int .i64 B, .int .i64 T, .int .i64 M, .int .i64 C]] : Array Value)) undef) = 21 := by kernel_rfl
  have HL0 := Loc.start w
  refine aw_seq ?_
  refine aw_reg ?_
  refine ax_new 64 [.int .i64 k, .int .i64 B, .int .i64 T, .int .i64 M, .int .i64 C] HB HL0 (by kernel_rfl) (by kernel_rfl) ?_
  intro g1 w2 HL3
  clear HL0
  refine ax_new 55 [.int .i64 0, .int .i64 0] HB HL3 (by kernel_rfl) (by kernel_rfl) ?_
  intro g4 w5 HL6
  clear HL3
  refine ax_new 55 [.int .i64 0, .int .i64 0] HB HL6 (by kernel_rfl) (by kernel_rfl) ?_
  intro g7 w8 HL9
  clear HL6
  refine ax_val (v := .int .i64 0) (.int .i64 0) HB (by kernel_rfl) (by kernel_rfl) (rfl) ?_
  refine aw_nil ?_
  refine aw_n_then ?_
  refine aw_seq ?_
  refine aw_seq ?_
  refine aw_reg ?_
  refine ax_mid 64 (.tmp 1) 2 g1 0 64 [.int .i64 k, .int .i64 B, .int .i64 T, .int .i64 M, .int .i64 C] [.int .i64 k, .int .i64 B, .int .i64 T, .int .i64 M, .int .i64 C] _ HB HL9 (by kernel_rfl) rfl (by kernel_rfl) rfl rfl Tryd.underlying64 rfl (by kernel_rfl) ?_
  refine ax_call 78 #[.agg #[.int .i64 k, .int .i64 B, .int .i64 T, .int .i64 M, .int .i64 C]] (.int .i64 0) HB HL9 (by kernel_rfl) (by kernel_rfl) ((by have h0 := Check_any k B T M C w8; rw [if_pos hb] at h0; exact h0)) ?_
  intro w10 HL11
  clear HL9
  refine ax_val (v := .int .i64 0) (.int .i64 0) HB (by kernel_rfl) (by kernel_rfl) (rfl) ?_
  refine aw_nil ?_
  refine aw_n_then ?_
  refine aw_seq ?_
  refine aw_reg ?_
  refine ax_val (v := .int .i64 0) (.int .i64 0) HB (by kernel_rfl) (by kernel_rfl) (rfl) ?_
  refine ax_val (v := .bool false) (.bool false) HB (by kernel_rfl) (by kernel_rfl) (rfl) ?_
  refine aw_nil ?_
  refine aw_n_then ?_
  refine ax_no HB (by kernel_rfl) ?_
  refine aw_skip0 ?_
  refine aw_n_then ?_
  refine aw_seq ?_
  refine ad_start [(g1, 64, [.int .i64 k, .int .i64 B, .int .i64 T, .int .i64 M, .int .i64 C])] HL11 (by kernel_rfl) (List.Sublist.cons _ (List.Sublist.cons _ (List.Sublist.cons_cons _ List.Sublist.slnil))) rfl ?_
  intro w13 HL12
  clear HL11
  refine ay_mid 0 64 (.tmp 1) 0 g1 0 64 [.int .i64 k, .int .i64 B, .int .i64 T, .int .i64 M, .int .i64 C] [.int .i64 k, .int .i64 B, .int .i64 T, .int .i64 M, .int .i64 C] _ HB rfl (by kernel_rfl) (by kernel_rfl) (by kernel_rfl) (fun _ _ _ h => h) (by kernel_rfl) rfl (by kernel_rfl) rfl rfl Tryd.underlying64 rfl (by kernel_rfl) ?_
  refine ay_call 1 138 #[.agg #[.int .i64 k, .int .i64 B, .int .i64 T, .int .i64 M, .int .i64 C]] (.agg #[.int .i64 ((mouthE B M C).1.1), .int .i64 ((mouthE B M C).1.2), .int .i64 ((mouthE B M C).2)]) HB rfl (by kernel_rfl) (by kernel_rfl) (by kernel_rfl) (fun _ _ _ h => h) (by kernel_rfl) (fun _ => by kernel_rfl) (fun u hu => atMouth_any k B T M C u hb) ?_
  refine ay_val (v := .agg #[.int .i64 ((mouthE B M C).1.1), .int .i64 ((mouthE B M C).1.2)]) 2 (.agg #[.int .i64 ((mouthE B M C).1.1), .int .i64 ((mouthE B M C).1.2)]) HB rfl (by kernel_rfl) (by kernel_rfl) (by kernel_rfl) (fun _ _ _ h => h) (by kernel_rfl) (fun _ _ => by kernel_rfl) (rfl) ?_
  refine ay_val (v := .agg #[.int .i64 ((mouthE B M C).1.1), .int .i64 ((mouthE B M C).1.2)]) 3 (.agg #[.int .i64 ((mouthE B M C).1.1), .int .i64 ((mouthE B M C).1.2)]) HB rfl (by kernel_rfl) (by kernel_rfl) (by kernel_rfl) (fun _ _ _ h => h) (by kernel_rfl) (fun _ _ => by kernel_rfl) (rfl) ?_
  refine ay_mid 4 64 (.tmp 1) 0 g1 0 64 [.int .i64 k, .int .i64 B, .int .i64 T, .int .i64 M, .int .i64 C] [.int .i64 k, .int .i64 B, .int .i64 T, .int .i64 M, .int .i64 C] _ HB rfl (by kernel_rfl) (by kernel_rfl) (by kernel_rfl) (fun _ _ _ h => h) (by kernel_rfl) rfl (by kernel_rfl) rfl rfl Tryd.underlying64 rfl (by kernel_rfl) ?_
  refine ay_call 5 139 #[.agg #[.int .i64 k, .int .i64 B, .int .i64 T, .int .i64 M, .int .i64 C]] (.agg #[.int .i64 ((endE k T).1.1), .int .i64 ((endE k T).1.2), .int .i64 ((endE k T).2)]) HB rfl (by kernel_rfl) (by kernel_rfl) (by kernel_rfl) (fun _ _ _ h => h) (by kernel_rfl) (fun _ => by kernel_rfl) (fun u hu => atEnd_any k B T M C u (hkd.loc hu) hb) ?_
  refine ay_val (v := .agg #[.int .i64 ((endE k T).1.1), .int .i64 ((endE k T).1.2)]) 6 (.agg #[.int .i64 ((endE k T).1.1), .int .i64 ((endE k T).1.2)]) HB rfl (by kernel_rfl) (by kernel_rfl) (by kernel_rfl) (fun _ _ _ h => h) (by kernel_rfl) (fun _ _ => by kernel_rfl) (rfl) ?_
  refine ay_val (v := .agg #[.int .i64 ((endE k T).1.1), .int .i64 ((endE k T).1.2)]) 7 (.agg #[.int .i64 ((endE k T).1.1), .int .i64 ((endE k T).1.2)]) HB rfl (by kernel_rfl) (by kernel_rfl) (by kernel_rfl) (fun _ _ _ h => h) (by kernel_rfl) (fun _ _ => by kernel_rfl) (rfl) ?_
  refine ad_one 8 HL12 (by kernel_rfl) (bs_store 55 (.tmp 2) (.tmp 16) 1 g4 0 55 [.int .i64 0, .int .i64 0] [.int .i64 ((mouthE B M C).1.1), .int .i64 ((mouthE B M C).1.2)] [.int .i64 ((mouthE B M C).1.1), .int .i64 ((mouthE B M C).1.2)] [(g7, 55, [.int .i64 0, .int .i64 0]), (g4, 55, [.int .i64 ((mouthE B M C).1.1), .int .i64 ((mouthE B M C).1.2)]), (g1, 64, [.int .i64 k, .int .i64 B, .int .i64 T, .int .i64 M, .int .i64 C])] HB rfl (by kernel_rfl) rfl (by kernel_rfl) (by kernel_rfl) rfl (by kernel_rfl) (by kernel_rfl) (Nat.le_of_ble_eq_true rfl) rfl rfl (List.Sublist.cons _ (List.Sublist.cons _ (List.Sublist.cons_cons _ List.Sublist.slnil))) ?_)
  intro w18 HL19
  clear HL12
  refine ad_one 9 HL19 (by kernel_rfl) (bs_store 55 (.tmp 3) (.tmp 20) 0 g7 0 55 [.int .i64 0, .int .i64 0] [.int .i64 ((endE k T).1.1), .int .i64 ((endE k T).1.2)] [.int .i64 ((endE k T).1.1), .int .i64 ((endE k T).1.2)] [(g7, 55, [.int .i64 ((endE k T).1.1), .int .i64 ((endE k T).1.2)]), (g4, 55, [.int .i64 ((mouthE B M C).1.1), .int .i64 ((mouthE B M C).1.2)]), (g1, 64, [.int .i64 k, .int .i64 B, .int .i64 T, .int .i64 M, .int .i64 C])] HB rfl (by kernel_rfl) rfl (by kernel_rfl) (by kernel_rfl) rfl (by kernel_rfl) (by kernel_rfl) (Nat.le_of_ble_eq_true rfl) rfl rfl (List.Sublist.cons _ (List.Sublist.cons _ (List.Sublist.cons_cons _ List.Sublist.slnil))) ?_)
  intro w20 HL21
  clear HL19
  refine ay_val (v := .int .i64 0) 10 (.int .i64 0) HB rfl (by kernel_rfl) (by kernel_rfl) (by kernel_rfl) (fun _ _ _ h => h) (by kernel_rfl) (fun _ _ => by kernel_rfl) (rfl) ?_
  refine ad_done HL21 (by kernel_rfl) (fun w23 HL22 => ?_)
  clear HL21
  refine aw_n_then ?_
  refine aw_ret ?_
  refine aw_end (.tuple #[.agg #[.int .i64 ((mouthE B M C).1.1), .int .i64 ((mouthE B M C).1.2)], .agg #[.int .i64 ((endE k T).1.1), .int .i64 ((endE k T).1.2)], .int .i64 0]) (by kernel_rfl) (res_cct Tryd.results85 (by kernel_rfl) (by kernel_rfl) (by kernel_rfl) (loc_var HL22 (i := 1) rfl Tryd.underlying55 rfl (by kernel_rfl)) (loc_var HL22 (i := 0) rfl Tryd.underlying55 rfl (by kernel_rfl))) ?_
  exact ⟨rfl, HL22.bel⟩

end Go.Proofs.YtmbcejldifobnaaDoor.Ln
