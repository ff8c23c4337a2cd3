import Derived.Test.YtmbcejldifobnaaDoorC14
import Derived.Test.YtmbcejldifobnaaDoorC06
namespace Go.Proofs.YtmbcejldifobnaaDoor.Ln
open Go.RowKit Tp Sp Pc
def kdI : List Int := [0, 0, 500, 30665, 250, 0, 500, 30665]
structure KdL (W : World) : Prop where
  cell : ∀ (i : Nat) (p : Int), kdI[i]? = some p → W.cell? ⟨1, i, none⟩ = some (.int .i64 p)
  lt : 1 < W.heap.size
theorem KdL.below {W W' : World} (h : KdL W) (hb : Below W.heap.size W W') : KdL W' :=
  ⟨fun i p hp => (hb.cell (p := ⟨1, i, none⟩) h.lt).trans (h.cell i p hp), Nat.lt_of_lt_of_le h.lt hb.size⟩
theorem KdL.loc {w0 w : World} {rows : List (Nat × TypeId × List Value)} (h : KdL w0) (hl : Loc w0 rows w) : KdL w := h.below hl.bel
theorem mouth_prod {B M C : Int} (hM : 1 ≤ M) (hM2 : M ≤ 2000000) (hC : 1 ≤ C) (hC2 : C ≤ 2000000) : okC (thruE rt2 (withE mulW ((M, M), 0) ((C, C), 0))) := by
  have c1 : 1 * 1 ≤ M * C := Int.mul_le_mul hM hC (by omega) (by omega)
  have c2 : M * C ≤ 2000000 * 2000000 := Int.mul_le_mul hM2 hC2 (by omega) (by omega)
  have m2 : Mid (M, M) := ⟨by show 0 ≤ M; omega, Int.le_refl _, by show M ≤ _; omega⟩
  have m3 : Mid (C, C) := ⟨by show 0 ≤ C; omega, Int.le_refl _, by show C ≤ _; omega⟩
  have e2 : mulW (M, M) (C, C) = ((M * C, M * C), 0) := mul_mid m2 m3 (by show M * C ≤ _; omega)
  rw [with_ok rfl rfl, e2, thru_ok rfl]
  exact ok_root (by omega) (by omega) (by omega)
set_option maxRecDepth 100000 in
set_option maxHeartbeats 2000000 in
theorem atMouth_any (k B T M C : Int) (w : World) (hb : bdB k B T M C = true) : Calls Tryd.prog 138 #[.agg #[.int .i64 k, .int .i64 B, .int .i64 T, .int .i64 M, .int .i64 C]] w fun r w' => r = .returned (calV (mouthE B M C)) ∧ Below w.heap.size w w' := by
  obtain ⟨⟨hk1, hk2⟩, ⟨hB1, hB2⟩, hT0, ⟨hM1, hM2⟩, hC1, hC2⟩ := bdB_iff.1 hb
  obtain ⟨hT1, hT2⟩ := bd_top hb
  have hrt := mouth_prod (B := B) hM1 (show M ≤ 2000000 by omega) hC1 (show C ≤ 2000000 by omega)
  clear hT0
  refine calls_of_wp Tryd.func138 rfl ?_
  refine Boxw.out (ax_in ?_)
  have HB : Array.size ((#[.agg #[.int .i64 k, .int .i64 B, .int .i64 T, .int .i64 M, .int .i64 C]] : Array Value) ++ Array.replicate (Func.ntmps Tryd.f138 - Array.size (#[.agg #[.int .i64 k, .int .i64 B, .int .i64 T, .int .i64 M, .int .i64 C]] : Array Value)) undef) = 24 := by kernel_rfl
  have HL0 := Loc.start w
  refine aw_seq ?_
  refine aw_reg ?_
  refine ax_new 64 [.int .i64 k, .int .i64 B, .int .i64 T, .int .i64 M, .int .i64 C] HB HL0 (by kernel_rfl) (by kernel_rfl) ?_
  intro g1 w2 HL3
  clear HL0
  refine ax_new 125 [.int .i64 0, .int .i64 0, .int .i64 0] HB HL3 (by kernel_rfl) (by kernel_rfl) ?_
  intro g4 w5 HL6
  clear HL3
  refine aw_nil ?_
  refine aw_n_then ?_
  refine aw_seq ?_
  refine ad_start [(g4, 125, [.int .i64 0, .int .i64 0, .int .i64 0]), (g1, 64, [.int .i64 k, .int .i64 B, .int .i64 T, .int .i64 M, .int .i64 C])] HL6 (by kernel_rfl) (List.Sublist.cons_cons _ (List.Sublist.cons_cons _ List.Sublist.slnil)) rfl ?_
  intro w8 HL7
  clear HL6
  refine ay_val (v := .pointer (some ⟨g1, 1, none⟩)) 0 (.pointer (some ⟨g1, 1, none⟩)) HB rfl (by kernel_rfl) (by kernel_rfl) (by kernel_rfl) (fun _ _ _ h => h) (by kernel_rfl) (fun _ _ => by kernel_rfl) (rfl) ?_
  refine ay_load 1 2 (.tmp 5) 1 g1 1 64 [.int .i64 k, .int .i64 B, .int .i64 T, .int .i64 M, .int .i64 C] (.int .i64 B) _ HB rfl (by kernel_rfl) (by kernel_rfl) (by kernel_rfl) (fun _ _ _ h => h) (by kernel_rfl) rfl (by kernel_rfl) rfl rfl Tryd.underlying2 rfl ?_
  refine ay_call 2 171 #[.int .i64 B] (.agg #[.int .i64 B, .int .i64 B, .int .i64 0]) HB rfl (by kernel_rfl) (by kernel_rfl) (by kernel_rfl) (fun _ _ _ h => h) (by kernel_rfl) (fun _ => by kernel_rfl) (fun u hu => number_any B u) ?_
  refine ay_val (v := .pointer (some ⟨g1, 1, none⟩)) 3 (.pointer (some ⟨g1, 1, none⟩)) HB rfl (by kernel_rfl) (by kernel_rfl) (by kernel_rfl) (fun _ _ _ h => h) (by kernel_rfl) (fun _ _ => by kernel_rfl) (rfl) ?_
  refine ay_load 4 2 (.tmp 8) 1 g1 1 64 [.int .i64 k, .int .i64 B, .int .i64 T, .int .i64 M, .int .i64 C] (.int .i64 B) _ HB rfl (by kernel_rfl) (by kernel_rfl) (by kernel_rfl) (fun _ _ _ h => h) (by kernel_rfl) rfl (by kernel_rfl) rfl rfl Tryd.underlying2 rfl ?_
  refine ay_call 5 171 #[.int .i64 B] (.agg #[.int .i64 B, .int .i64 B, .int .i64 0]) HB rfl (by kernel_rfl) (by kernel_rfl) (by kernel_rfl) (fun _ _ _ h => h) (by kernel_rfl) (fun _ => by kernel_rfl) (fun u hu => number_any B u) ?_
  refine ay_call 6 172 #[.agg #[.int .i64 B, .int .i64 B, .int .i64 0], .agg #[.int .i64 B, .int .i64 B, .int .i64 0]] (.agg #[.int .i64 ((withE mulW ((B, B), 0) ((B, B), 0)).1.1), .int .i64 ((withE mulW ((B, B), 0) ((B, B), 0)).1.2), .int .i64 ((withE mulW ((B, B), 0) ((B, B), 0)).2)]) HB rfl (by kernel_rfl) (by kernel_rfl) (by kernel_rfl) (fun _ _ _ h => h) (by kernel_rfl) (fun _ => by kernel_rfl) (fun u hu => times_any B B 0 B B 0 u (okC.two (okC_small (e := 0) (by omega) (by omega) (by omega) (by omega) : okC ((B, B), 0)) (okC_small (e := 0) (by omega) (by omega) (by omega) (by omega) : okC ((B, B), 0)))) ?_
  refine ad_one 7 HL7 (by kernel_rfl) (bs_new 125 [.int .i64 0, .int .i64 0, .int .i64 0] HB rfl (by kernel_rfl) (fun _ => by kernel_rfl) (List.Sublist.cons_cons _ (List.Sublist.cons_cons _ List.Sublist.slnil)) ?_)
  intro g15 w16 HL17
  clear HL7
  refine ad_one 8 HL17 (by kernel_rfl) (bs_store 125 (.tmp 3) (.tmp 11) 0 g15 0 125 [.int .i64 0, .int .i64 0, .int .i64 0] [.int .i64 ((withE mulW ((B, B), 0) ((B, B), 0)).1.1), .int .i64 ((withE mulW ((B, B), 0) ((B, B), 0)).1.2), .int .i64 ((withE mulW ((B, B), 0) ((B, B), 0)).2)] [.int .i64 ((withE mulW ((B, B), 0) ((B, B), 0)).1.1), .int .i64 ((withE mulW ((B, B), 0) ((B, B), 0)).1.2), .int .i64 ((withE mulW ((B, B), 0) ((B, B), 0)).2)] [(g15, 125, [.int .i64 ((withE mulW ((B, B), 0) ((B, B), 0)).1.1), .int .i64 ((withE mulW ((B, B), 0) ((B, B), 0)).1.2), .int .i64 ((withE mulW ((B, B), 0) ((B, B), 0)).2)]), (g4, 125, [.int .i64 0, .int .i64 0, .int .i64 0]), (g1, 64, [.int .i64 k, .int .i64 B, .int .i64 T, .int .i64 M, .int .i64 C])] HB rfl (by kernel_rfl) rfl (by kernel_rfl) (by kernel_rfl) rfl (by kernel_rfl) (by kernel_rfl) (Nat.le_of_ble_eq_true rfl) rfl rfl (List.Sublist.cons _ (List.Sublist.cons_cons _ (List.Sublist.cons_cons _ List.Sublist.slnil))) ?_)
  intro w18 HL19
  clear HL17
  refine ad_done HL19 (by kernel_rfl) (fun w21 HL20 => ?_)
  clear HL19
  refine aw_n_then ?_
  refine aw_seq ?_
  refine ad_start [(g15, 125, [.int .i64 ((withE mulW ((B, B), 0) ((B, B), 0)).1.1), .int .i64 ((withE mulW ((B, B), 0) ((B, B), 0)).1.2), .int .i64 ((withE mulW ((B, B), 0) ((B, B), 0)).2)]), (g4, 125, [.int .i64 0, .int .i64 0, .int .i64 0]), (g1, 64, [.int .i64 k, .int .i64 B, .int .i64 T, .int .i64 M, .int .i64 C])] HL20 (by kernel_rfl) (List.Sublist.cons_cons _ (List.Sublist.cons_cons _ (List.Sublist.cons_cons _ List.Sublist.slnil))) rfl ?_
  intro w23 HL22
  clear HL20
  refine ay_val (v := .pointer (some ⟨g1, 3, none⟩)) 0 (.pointer (some ⟨g1, 3, none⟩)) HB rfl (by kernel_rfl) (by kernel_rfl) (by kernel_rfl) (fun _ _ _ h => h) (by kernel_rfl) (fun _ _ => by kernel_rfl) (rfl) ?_
  refine ay_load 1 2 (.tmp 12) 2 g1 3 64 [.int .i64 k, .int .i64 B, .int .i64 T, .int .i64 M, .int .i64 C] (.int .i64 M) _ HB rfl (by kernel_rfl) (by kernel_rfl) (by kernel_rfl) (fun _ _ _ h => h) (by kernel_rfl) rfl (by kernel_rfl) rfl rfl Tryd.underlying2 rfl ?_
  refine ay_call 2 171 #[.int .i64 M] (.agg #[.int .i64 M, .int .i64 M, .int .i64 0]) HB rfl (by kernel_rfl) (by kernel_rfl) (by kernel_rfl) (fun _ _ _ h => h) (by kernel_rfl) (fun _ => by kernel_rfl) (fun u hu => number_any M u) ?_
  refine ay_val (v := .pointer (some ⟨g1, 4, none⟩)) 3 (.pointer (some ⟨g1, 4, none⟩)) HB rfl (by kernel_rfl) (by kernel_rfl) (by kernel_rfl) (fun _ _ _ h => h) (by kernel_rfl) (fun _ _ => by kernel_rfl) (rfl) ?_
  refine ay_load 4 2 (.tmp 15) 2 g1 4 64 [.int .i64 k, .int .i64 B, .int .i64 T, .int .i64 M, .int .i64 C] (.int .i64 C) _ HB rfl (by kernel_rfl) (by kernel_rfl) (by kernel_rfl) (fun _ _ _ h => h) (by kernel_rfl) rfl (by kernel_rfl) rfl rfl Tryd.underlying2 rfl ?_
  refine ay_call 5 171 #[.int .i64 C] (.agg #[.int .i64 C, .int .i64 C, .int .i64 0]) HB rfl (by kernel_rfl) (by kernel_rfl) (by kernel_rfl) (fun _ _ _ h => h) (by kernel_rfl) (fun _ => by kernel_rfl) (fun u hu => number_any C u) ?_
  refine ay_call 6 172 #[.agg #[.int .i64 M, .int .i64 M, .int .i64 0], .agg #[.int .i64 C, .int .i64 C, .int .i64 0]] (.agg #[.int .i64 ((withE mulW ((M, M), 0) ((C, C), 0)).1.1), .int .i64 ((withE mulW ((M, M), 0) ((C, C), 0)).1.2), .int .i64 ((withE mulW ((M, M), 0) ((C, C), 0)).2)]) HB rfl (by kernel_rfl) (by kernel_rfl) (by kernel_rfl) (fun _ _ _ h => h) (by kernel_rfl) (fun _ => by kernel_rfl) (fun u hu => times_any M M 0 C C 0 u (okC.two (okC_small (e := 0) (by omega) (by omega) (by omega) (by omega) : okC ((M, M), 0)) (okC_small (e := 0) (by omega) (by omega) (by omega) (by omega) : okC ((C, C), 0)))) ?_
  refine ad_one 7 HL22 (by kernel_rfl) (bs_new 125 [.int .i64 0, .int .i64 0, .int .i64 0] HB rfl (by kernel_rfl) (fun _ => by kernel_rfl) (List.Sublist.cons_cons _ (List.Sublist.cons_cons _ (List.Sublist.cons_cons _ List.Sublist.slnil))) ?_)
  intro g30 w31 HL32
  clear HL22
  refine ad_one 8 HL32 (by kernel_rfl) (bs_store 125 (.tmp 4) (.tmp 18) 0 g30 0 125 [.int .i64 0, .int .i64 0, .int .i64 0] [.int .i64 ((withE mulW ((M, M), 0) ((C, C), 0)).1.1), .int .i64 ((withE mulW ((M, M), 0) ((C, C), 0)).1.2), .int .i64 ((withE mulW ((M, M), 0) ((C, C), 0)).2)] [.int .i64 ((withE mulW ((M, M), 0) ((C, C), 0)).1.1), .int .i64 ((withE mulW ((M, M), 0) ((C, C), 0)).1.2), .int .i64 ((withE mulW ((M, M), 0) ((C, C), 0)).2)] [(g30, 125, [.int .i64 ((withE mulW ((M, M), 0) ((C, C), 0)).1.1), .int .i64 ((withE mulW ((M, M), 0) ((C, C), 0)).1.2), .int .i64 ((withE mulW ((M, M), 0) ((C, C), 0)).2)]), (g15, 125, [.int .i64 ((withE mulW ((B, B), 0) ((B, B), 0)).1.1), .int .i64 ((withE mulW ((B, B), 0) ((B, B), 0)).1.2), .int .i64 ((withE mulW ((B, B), 0) ((B, B), 0)).2)]), (g4, 125, [.int .i64 0, .int .i64 0, .int .i64 0]), (g1, 64, [.int .i64 k, .int .i64 B, .int .i64 T, .int .i64 M, .int .i64 C])] HB rfl (by kernel_rfl) rfl (by kernel_rfl) (by kernel_rfl) rfl (by kernel_rfl) (by kernel_rfl) (Nat.le_of_ble_eq_true rfl) rfl rfl (List.Sublist.cons _ (List.Sublist.cons_cons _ (List.Sublist.cons_cons _ (List.Sublist.cons_cons _ List.Sublist.slnil)))) ?_)
  intro w33 HL34
  clear HL32
  refine ad_done HL34 (by kernel_rfl) (fun w36 HL35 => ?_)
  clear HL34
  refine aw_n_then ?_
  refine aw_seq ?_
  refine ad_start [(g30, 125, [.int .i64 ((withE mulW ((M, M), 0) ((C, C), 0)).1.1), .int .i64 ((withE mulW ((M, M), 0) ((C, C), 0)).1.2), .int .i64 ((withE mulW ((M, M), 0) ((C, C), 0)).2)]), (g15, 125, [.int .i64 ((withE mulW ((B, B), 0) ((B, B), 0)).1.1), .int .i64 ((withE mulW ((B, B), 0) ((B, B), 0)).1.2), .int .i64 ((withE mulW ((B, B), 0) ((B, B), 0)).2)]), (g1, 64, [.int .i64 k, .int .i64 B, .int .i64 T, .int .i64 M, .int .i64 C])] HL35 (by kernel_rfl) (List.Sublist.cons_cons _ (List.Sublist.cons_cons _ (List.Sublist.cons _ (List.Sublist.cons_cons _ List.Sublist.slnil)))) rfl ?_
  intro w38 HL37
  clear HL35
  refine ay_mid 0 125 (.tmp 3) 1 g15 0 125 [.int .i64 ((withE mulW ((B, B), 0) ((B, B), 0)).1.1), .int .i64 ((withE mulW ((B, B), 0) ((B, B), 0)).1.2), .int .i64 ((withE mulW ((B, B), 0) ((B, B), 0)).2)] [.int .i64 ((withE mulW ((B, B), 0) ((B, B), 0)).1.1), .int .i64 ((withE mulW ((B, B), 0) ((B, B), 0)).1.2), .int .i64 ((withE mulW ((B, B), 0) ((B, B), 0)).2)] _ HB rfl (by kernel_rfl) (by kernel_rfl) (by kernel_rfl) (fun _ _ _ h => h) (by kernel_rfl) rfl (by kernel_rfl) rfl rfl Tryd.underlying125 rfl (by kernel_rfl) ?_
  refine ay_call 1 140 #[.agg #[.int .i64 ((withE mulW ((B, B), 0) ((B, B), 0)).1.1), .int .i64 ((withE mulW ((B, B), 0) ((B, B), 0)).1.2), .int .i64 ((withE mulW ((B, B), 0) ((B, B), 0)).2)], .int .i64 575, .int .i64 1000] (.agg #[.int .i64 ((thruE (fun a => scaleE a 575 1000) (withE mulW ((B, B), 0) ((B, B), 0))).1.1), .int .i64 ((thruE (fun a => scaleE a 575 1000) (withE mulW ((B, B), 0) ((B, B), 0))).1.2), .int .i64 ((thruE (fun a => scaleE a 575 1000) (withE mulW ((B, B), 0) ((B, B), 0))).2)]) HB rfl (by kernel_rfl) (by kernel_rfl) (by kernel_rfl) (fun _ _ _ h => h) (by kernel_rfl) (fun _ => by kernel_rfl) (fun u hu => scaled_any ((withE mulW ((B, B), 0) ((B, B), 0)).1.1) ((withE mulW ((B, B), 0) ((B, B), 0)).1.2) ((withE mulW ((B, B), 0) ((B, B), 0)).2) 575 1000 u (okC.i3 (ok_with ok_mul _ _) (by omega) (by omega) (by omega) (by omega))) ?_
  refine ay_mid 2 125 (.tmp 4) 0 g30 0 125 [.int .i64 ((withE mulW ((M, M), 0) ((C, C), 0)).1.1), .int .i64 ((withE mulW ((M, M), 0) ((C, C), 0)).1.2), .int .i64 ((withE mulW ((M, M), 0) ((C, C), 0)).2)] [.int .i64 ((withE mulW ((M, M), 0) ((C, C), 0)).1.1), .int .i64 ((withE mulW ((M, M), 0) ((C, C), 0)).1.2), .int .i64 ((withE mulW ((M, M), 0) ((C, C), 0)).2)] _ HB rfl (by kernel_rfl) (by kernel_rfl) (by kernel_rfl) (fun _ _ _ h => h) (by kernel_rfl) rfl (by kernel_rfl) rfl rfl Tryd.underlying125 rfl (by kernel_rfl) ?_
  refine ay_call 3 173 #[.agg #[.int .i64 ((withE mulW ((M, M), 0) ((C, C), 0)).1.1), .int .i64 ((withE mulW ((M, M), 0) ((C, C), 0)).1.2), .int .i64 ((withE mulW ((M, M), 0) ((C, C), 0)).2)]] (.agg #[.int .i64 ((thruE rt2 (withE mulW ((M, M), 0) ((C, C), 0))).1.1), .int .i64 ((thruE rt2 (withE mulW ((M, M), 0) ((C, C), 0))).1.2), .int .i64 ((thruE rt2 (withE mulW ((M, M), 0) ((C, C), 0))).2)]) HB rfl (by kernel_rfl) (by kernel_rfl) (by kernel_rfl) (fun _ _ _ h => h) (by kernel_rfl) (fun _ => by kernel_rfl) (fun u hu => squareRoot_any ((withE mulW ((M, M), 0) ((C, C), 0)).1.1) ((withE mulW ((M, M), 0) ((C, C), 0)).1.2) ((withE mulW ((M, M), 0) ((C, C), 0)).2) u (ok_with ok_mul _ _)) ?_
  refine ay_call 4 83 #[.agg #[.int .i64 ((thruE (fun a => scaleE a 575 1000) (withE mulW ((B, B), 0) ((B, B), 0))).1.1), .int .i64 ((thruE (fun a => scaleE a 575 1000) (withE mulW ((B, B), 0) ((B, B), 0))).1.2), .int .i64 ((thruE (fun a => scaleE a 575 1000) (withE mulW ((B, B), 0) ((B, B), 0))).2)], .agg #[.int .i64 ((thruE rt2 (withE mulW ((M, M), 0) ((C, C), 0))).1.1), .int .i64 ((thruE rt2 (withE mulW ((M, M), 0) ((C, C), 0))).1.2), .int .i64 ((thruE rt2 (withE mulW ((M, M), 0) ((C, C), 0))).2)]] (.agg #[.int .i64 ((withE divE (thruE (fun a => scaleE a 575 1000) (withE mulW ((B, B), 0) ((B, B), 0))) (thruE rt2 (withE mulW ((M, M), 0) ((C, C), 0)))).1.1), .int .i64 ((withE divE (thruE (fun a => scaleE a 575 1000) (withE mulW ((B, B), 0) ((B, B), 0))) (thruE rt2 (withE mulW ((M, M), 0) ((C, C), 0)))).1.2), .int .i64 ((withE divE (thruE (fun a => scaleE a 575 1000) (withE mulW ((B, B), 0) ((B, B), 0))) (thruE rt2 (withE mulW ((M, M), 0) ((C, C), 0)))).2)]) HB rfl (by kernel_rfl) (by kernel_rfl) (by kernel_rfl) (fun _ _ _ h => h) (by kernel_rfl) (fun _ => by kernel_rfl) (fun u hu => over_any ((thruE (fun a => scaleE a 575 1000) (withE mulW ((B, B), 0) ((B, B), 0))).1.1) ((thruE (fun a => scaleE a 575 1000) (withE mulW ((B, B), 0) ((B, B), 0))).1.2) ((thruE (fun a => scaleE a 575 1000) (withE mulW ((B, B), 0) ((B, B), 0))).2) ((thruE rt2 (withE mulW ((M, M), 0) ((C, C), 0))).1.1) ((thruE rt2 (withE mulW ((M, M), 0) ((C, C), 0))).1.2) ((thruE rt2 (withE mulW ((M, M), 0) ((C, C), 0))).2) u (okC.two (ok_thru (ok_scale _ _) (ok_with ok_mul _ _)) hrt)) ?_
  refine ad_one 5 HL37 (by kernel_rfl) (bs_store 125 (.tmp 2) (.tmp 23) 2 g4 0 125 [.int .i64 0, .int .i64 0, .int .i64 0] [.int .i64 ((withE divE (thruE (fun a => scaleE a 575 1000) (withE mulW ((B, B), 0) ((B, B), 0))) (thruE rt2 (withE mulW ((M, M), 0) ((C, C), 0)))).1.1), .int .i64 ((withE divE (thruE (fun a => scaleE a 575 1000) (withE mulW ((B, B), 0) ((B, B), 0))) (thruE rt2 (withE mulW ((M, M), 0) ((C, C), 0)))).1.2), .int .i64 ((withE divE (thruE (fun a => scaleE a 575 1000) (withE mulW ((B, B), 0) ((B, B), 0))) (thruE rt2 (withE mulW ((M, M), 0) ((C, C), 0)))).2)] [.int .i64 ((withE divE (thruE (fun a => scaleE a 575 1000) (withE mulW ((B, B), 0) ((B, B), 0))) (thruE rt2 (withE mulW ((M, M), 0) ((C, C), 0)))).1.1), .int .i64 ((withE divE (thruE (fun a => scaleE a 575 1000) (withE mulW ((B, B), 0) ((B, B), 0))) (thruE rt2 (withE mulW ((M, M), 0) ((C, C), 0)))).1.2), .int .i64 ((withE divE (thruE (fun a => scaleE a 575 1000) (withE mulW ((B, B), 0) ((B, B), 0))) (thruE rt2 (withE mulW ((M, M), 0) ((C, C), 0)))).2)] [(g30, 125, [.int .i64 ((withE mulW ((M, M), 0) ((C, C), 0)).1.1), .int .i64 ((withE mulW ((M, M), 0) ((C, C), 0)).1.2), .int .i64 ((withE mulW ((M, M), 0) ((C, C), 0)).2)]), (g15, 125, [.int .i64 ((withE mulW ((B, B), 0) ((B, B), 0)).1.1), .int .i64 ((withE mulW ((B, B), 0) ((B, B), 0)).1.2), .int .i64 ((withE mulW ((B, B), 0) ((B, B), 0)).2)]), (g4, 125, [.int .i64 ((withE divE (thruE (fun a => scaleE a 575 1000) (withE mulW ((B, B), 0) ((B, B), 0))) (thruE rt2 (withE mulW ((M, M), 0) ((C, C), 0)))).1.1), .int .i64 ((withE divE (thruE (fun a => scaleE a 575 1000) (withE mulW ((B, B), 0) ((B, B), 0))) (thruE rt2 (withE mulW ((M, M), 0) ((C, C), 0)))).1.2), .int .i64 ((withE divE (thruE (fun a => scaleE a 575 1000) (withE mulW ((B, B), 0) ((B, B), 0))) (thruE rt2 (withE mulW ((M, M), 0) ((C, C), 0)))).2)]), (g1, 64, [.int .i64 k, .int .i64 B, .int .i64 T, .int .i64 M, .int .i64 C])] HB rfl (by kernel_rfl) rfl (by kernel_rfl) (by kernel_rfl) rfl (by kernel_rfl) (by kernel_rfl) (Nat.le_of_ble_eq_true rfl) rfl rfl (List.Sublist.cons_cons _ (List.Sublist.cons_cons _ (List.Sublist.cons _ (List.Sublist.cons_cons _ List.Sublist.slnil)))) ?_)
  intro w45 HL46
  clear HL37
  refine ad_done HL46 (by kernel_rfl) (fun w48 HL47 => ?_)
  clear HL46
  refine aw_n_then ?_
  refine aw_ret ?_
  refine aw_end (.agg #[.int .i64 ((withE divE (thruE (fun a => scaleE a 575 1000) (withE mulW ((B, B), 0) ((B, B), 0))) (thruE rt2 (withE mulW ((M, M), 0) ((C, C), 0)))).1.1), .int .i64 ((withE divE (thruE (fun a => scaleE a 575 1000) (withE mulW ((B, B), 0) ((B, B), 0))) (thruE rt2 (withE mulW ((M, M), 0) ((C, C), 0)))).1.2), .int .i64 ((withE divE (thruE (fun a => scaleE a 575 1000) (withE mulW ((B, B), 0) ((B, B), 0))) (thruE rt2 (withE mulW ((M, M), 0) ((C, C), 0)))).2)]) (by kernel_rfl) (res_c Tryd.results138 (by kernel_rfl) (loc_var HL47 (i := 2) rfl Tryd.underlying125 rfl (by kernel_rfl))) ?_
  exact ⟨rfl, HL47.bel⟩

set_option maxRecDepth 100000 in
set_option maxHeartbeats 2000000 in
theorem atEnd_1 (B T M C : Int) (w : World) (hkd : KdL w) (hb : bdB 1 B T M C = true) : Calls Tryd.prog 139 #[.agg #[.int .i64 1, .int .i64 B, .int .i64 T, .int .i64 M, .int .i64 C]] w fun r w' => r = .returned (calV (endE 1 T)) ∧ Below w.heap.size w w' := by
  obtain ⟨hT1, hT2⟩ := bd_top hb
  refine calls_of_wp Tryd.func139 rfl ?_
  refine Boxw.out (ax_in ?_)
  have HB : Array.size ((#[.agg #[.int .i64 1, .int .i64 B, .int .i64 T, .int .i64 M, .int .i64 C]] : Array Value) ++ Array.replicate (Func.ntmps Tryd.f139 - Array.size (#[.agg #[.int .i64 1, .int .i64 B, .int .i64 T, .int .i64 M, .int .i64 C]] : Array Value)) undef) = 12 := by kernel_rfl
  have HL0 := Loc.start w
  refine aw_seq ?_
  refine aw_reg ?_
  refine ax_new 64 [.int .i64 1, .int .i64 B, .int .i64 T, .int .i64 M, .int .i64 C] HB HL0 (by kernel_rfl) (by kernel_rfl) ?_
  intro g1 w2 HL3
  clear HL0
  refine ax_new 125 [.int .i64 0, .int .i64 0, .int .i64 0] HB HL3 (by kernel_rfl) (by kernel_rfl) ?_
  intro g4 w5 HL6
  clear HL3
  refine aw_nil ?_
  refine aw_n_then ?_
  refine aw_seq ?_
  refine ad_start [(g1, 64, [.int .i64 1, .int .i64 B, .int .i64 T, .int .i64 M, .int .i64 C])] HL6 (by kernel_rfl) (List.Sublist.cons _ (List.Sublist.cons_cons _ List.Sublist.slnil)) rfl ?_
  intro w8 HL7
  clear HL6
  refine ay_val (v := .pointer (some ⟨g1, 2, none⟩)) 0 (.pointer (some ⟨g1, 2, none⟩)) HB rfl (by kernel_rfl) (by kernel_rfl) (by kernel_rfl) (fun _ _ _ h => h) (by kernel_rfl) (fun _ _ => by kernel_rfl) (rfl) ?_
  refine ay_load 1 2 (.tmp 3) 0 g1 2 64 [.int .i64 1, .int .i64 B, .int .i64 T, .int .i64 M, .int .i64 C] (.int .i64 T) _ HB rfl (by kernel_rfl) (by kernel_rfl) (by kernel_rfl) (fun _ _ _ h => h) (by kernel_rfl) rfl (by kernel_rfl) rfl rfl Tryd.underlying2 rfl ?_
  refine ay_call 2 171 #[.int .i64 T] (.agg #[.int .i64 T, .int .i64 T, .int .i64 0]) HB rfl (by kernel_rfl) (by kernel_rfl) (by kernel_rfl) (fun _ _ _ h => h) (by kernel_rfl) (fun _ => by kernel_rfl) (fun u hu => number_any T u) ?_
  refine ay_val (v := .pointer (some ⟨g1, 0, none⟩)) 3 (.pointer (some ⟨g1, 0, none⟩)) HB rfl (by kernel_rfl) (by kernel_rfl) (by kernel_rfl) (fun _ _ _ h => h) (by kernel_rfl) (fun _ _ => by kernel_rfl) (rfl) ?_
  refine ay_load 4 3 (.tmp 6) 0 g1 0 64 [.int .i64 1, .int .i64 B, .int .i64 T, .int .i64 M, .int .i64 C] (.int .i64 1) _ HB rfl (by kernel_rfl) (by kernel_rfl) (by kernel_rfl) (fun _ _ _ h => h) (by kernel_rfl) rfl (by kernel_rfl) rfl rfl Tryd.underlying3 rfl ?_
  refine ay_val (v := .pointer (some ⟨1, 2, none⟩)) 5 (.pointer (some ⟨1, 2, none⟩)) HB rfl (by kernel_rfl) (by kernel_rfl) (by kernel_rfl) (fun _ _ _ h => h) (by kernel_rfl) (fun _ _ => by kernel_rfl) (rfl) ?_
  refine ay_val (v := .pointer (some ⟨1, 3, none⟩)) 6 (.pointer (some ⟨1, 3, none⟩)) HB rfl (by kernel_rfl) (by kernel_rfl) (by kernel_rfl) (fun _ _ _ h => h) (by kernel_rfl) (fun _ _ => by kernel_rfl) (rfl) ?_
  refine ay_loadA 7 2 (.tmp 9) ⟨1, 3, none⟩ (.int .i64 30665) _ HB rfl (by kernel_rfl) (by kernel_rfl) (by kernel_rfl) (fun _ _ _ h => h) (by kernel_rfl) rfl (by kernel_rfl) (hkd.cell 3 30665 rfl) hkd.lt Tryd.underlying2 rfl ?_
  refine ay_call 8 140 #[.agg #[.int .i64 T, .int .i64 T, .int .i64 0], .int .i64 30665, .int .i64 100000] (.agg #[.int .i64 ((thruE (fun a => scaleE a 30665 100000) ((T, T), 0)).1.1), .int .i64 ((thruE (fun a => scaleE a 30665 100000) ((T, T), 0)).1.2), .int .i64 ((thruE (fun a => scaleE a 30665 100000) ((T, T), 0)).2)]) HB rfl (by kernel_rfl) (by kernel_rfl) (by kernel_rfl) (fun _ _ _ h => h) (by kernel_rfl) (fun _ => by kernel_rfl) (fun u hu => scaled_any T T 0 30665 100000 u (okC.i3 (okC_small (e := 0) (by omega) (by omega) (by omega) (by omega) : okC ((T, T), 0)) (by omega) (by omega) (by omega) (by omega))) ?_
  refine ad_one 9 HL7 (by kernel_rfl) (bs_store 125 (.tmp 2) (.tmp 11) 0 g4 0 125 [.int .i64 0, .int .i64 0, .int .i64 0] [.int .i64 ((thruE (fun a => scaleE a 30665 100000) ((T, T), 0)).1.1), .int .i64 ((thruE (fun a => scaleE a 30665 100000) ((T, T), 0)).1.2), .int .i64 ((thruE (fun a => scaleE a 30665 100000) ((T, T), 0)).2)] [.int .i64 ((thruE (fun a => scaleE a 30665 100000) ((T, T), 0)).1.1), .int .i64 ((thruE (fun a => scaleE a 30665 100000) ((T, T), 0)).1.2), .int .i64 ((thruE (fun a => scaleE a 30665 100000) ((T, T), 0)).2)] [(g4, 125, [.int .i64 ((thruE (fun a => scaleE a 30665 100000) ((T, T), 0)).1.1), .int .i64 ((thruE (fun a => scaleE a 30665 100000) ((T, T), 0)).1.2), .int .i64 ((thruE (fun a => scaleE a 30665 100000) ((T, T), 0)).2)]), (g1, 64, [.int .i64 1, .int .i64 B, .int .i64 T, .int .i64 M, .int .i64 C])] HB rfl (by kernel_rfl) rfl (by kernel_rfl) (by kernel_rfl) rfl (by kernel_rfl) (by kernel_rfl) (Nat.le_of_ble_eq_true rfl) rfl rfl (List.Sublist.cons _ (List.Sublist.cons_cons _ List.Sublist.slnil)) ?_)
  intro w13 HL14
  clear HL7
  refine ad_done HL14 (by kernel_rfl) (fun w16 HL15 => ?_)
  clear HL14
  refine aw_n_then ?_
  refine aw_ret ?_
  refine aw_end (.agg #[.int .i64 ((thruE (fun a => scaleE a 30665 100000) ((T, T), 0)).1.1), .int .i64 ((thruE (fun a => scaleE a 30665 100000) ((T, T), 0)).1.2), .int .i64 ((thruE (fun a => scaleE a 30665 100000) ((T, T), 0)).2)]) (by kernel_rfl) (res_c Tryd.results139 (by kernel_rfl) (loc_var HL15 (i := 0) rfl Tryd.underlying125 rfl (by kernel_rfl))) ?_
  exact ⟨rfl, HL15.bel⟩

set_option maxRecDepth 100000 in
set_option maxHeartbeats 2000000 in
theorem slowest_1 (B T M C t : Int) (w : World) (hkd : KdL w) : Calls Tryd.prog 82 #[.agg #[.int .i64 1, .int .i64 B, .int .i64 T, .int .i64 M, .int .i64 C], .int .i64 t] w fun r w' => r = .returned (calV (wayE (spdE t) 1)) ∧ Below w.heap.size w w' := by
  refine calls_of_wp Tryd.func82 rfl ?_
  refine Boxw.out (ax_in ?_)
  have HB : Array.size ((#[.agg #[.int .i64 1, .int .i64 B, .int .i64 T, .int .i64 M, .int .i64 C], .int .i64 t] : Array Value) ++ Array.replicate (Func.ntmps Tryd.f82 - Array.size (#[.agg #[.int .i64 1, .int .i64 B, .int .i64 T, .int .i64 M, .int .i64 C], .int .i64 t] : Array Value)) undef) = 16 := by kernel_rfl
  have HL0 := Loc.start w
  refine aw_seq ?_
  refine aw_reg ?_
  refine ax_new 64 [.int .i64 1, .int .i64 B, .int .i64 T, .int .i64 M, .int .i64 C] HB HL0 (by kernel_rfl) (by kernel_rfl) ?_
  intro g1 w2 HL3
  clear HL0
  refine ax_new 125 [.int .i64 0, .int .i64 0, .int .i64 0] HB HL3 (by kernel_rfl) (by kernel_rfl) ?_
  intro g4 w5 HL6
  clear HL3
  refine aw_nil ?_
  refine aw_n_then ?_
  refine aw_seq ?_
  refine ad_start [(g1, 64, [.int .i64 1, .int .i64 B, .int .i64 T, .int .i64 M, .int .i64 C])] HL6 (by kernel_rfl) (List.Sublist.cons _ (List.Sublist.cons_cons _ List.Sublist.slnil)) rfl ?_
  intro w8 HL7
  clear HL6
  refine ay_val (v := .int .i64 t) 0 (.int .i64 t) HB rfl (by kernel_rfl) (by kernel_rfl) (by kernel_rfl) (fun _ _ _ h => h) (by kernel_rfl) (fun _ _ => by kernel_rfl) (rfl) ?_
  refine ay_call 1 31 #[.int .i64 t] (.tuple #[.agg #[.int .i64 ((spdE t).1.1), .int .i64 ((spdE t).1.2)], .int .i64 ((spdE t).2)]) HB rfl (by kernel_rfl) (by kernel_rfl) (by kernel_rfl) (fun _ _ _ h => h) (by kernel_rfl) (fun _ => by kernel_rfl) (fun u hu => Speed_val t u) ?_
  refine ay_val (v := .agg #[.int .i64 ((spdE t).1.1), .int .i64 ((spdE t).1.2)]) 2 (.agg #[.int .i64 ((spdE t).1.1), .int .i64 ((spdE t).1.2)]) HB rfl (by kernel_rfl) (by kernel_rfl) (by kernel_rfl) (fun _ _ _ h => h) (by kernel_rfl) (fun _ _ => by kernel_rfl) (rfl) ?_
  refine ay_val (v := .int .i64 ((spdE t).2)) 3 (.int .i64 ((spdE t).2)) HB rfl (by kernel_rfl) (by kernel_rfl) (by kernel_rfl) (fun _ _ _ h => h) (by kernel_rfl) (fun _ _ => by kernel_rfl) (rfl) ?_
  refine ay_call 4 135 #[.agg #[.int .i64 ((spdE t).1.1), .int .i64 ((spdE t).1.2)], .int .i64 ((spdE t).2)] (.agg #[.int .i64 ((spdE t).1.1), .int .i64 ((spdE t).1.2), .int .i64 ((spdE t).2)]) HB rfl (by kernel_rfl) (by kernel_rfl) (by kernel_rfl) (fun _ _ _ h => h) (by kernel_rfl) (fun _ => by kernel_rfl) (fun u hu => calculated_any ((spdE t).1.1) ((spdE t).1.2) ((spdE t).2) u) ?_
  refine ay_val (v := .pointer (some ⟨g1, 0, none⟩)) 5 (.pointer (some ⟨g1, 0, none⟩)) HB rfl (by kernel_rfl) (by kernel_rfl) (by kernel_rfl) (fun _ _ _ h => h) (by kernel_rfl) (fun _ _ => by kernel_rfl) (rfl) ?_
  refine ay_load 6 3 (.tmp 10) 0 g1 0 64 [.int .i64 1, .int .i64 B, .int .i64 T, .int .i64 M, .int .i64 C] (.int .i64 1) _ HB rfl (by kernel_rfl) (by kernel_rfl) (by kernel_rfl) (fun _ _ _ h => h) (by kernel_rfl) rfl (by kernel_rfl) rfl rfl Tryd.underlying3 rfl ?_
  refine ay_val (v := .pointer (some ⟨1, 2, none⟩)) 7 (.pointer (some ⟨1, 2, none⟩)) HB rfl (by kernel_rfl) (by kernel_rfl) (by kernel_rfl) (fun _ _ _ h => h) (by kernel_rfl) (fun _ _ => by kernel_rfl) (rfl) ?_
  refine ay_val (v := .pointer (some ⟨1, 2, none⟩)) 8 (.pointer (some ⟨1, 2, none⟩)) HB rfl (by kernel_rfl) (by kernel_rfl) (by kernel_rfl) (fun _ _ _ h => h) (by kernel_rfl) (fun _ _ => by kernel_rfl) (rfl) ?_
  refine ay_loadA 9 2 (.tmp 13) ⟨1, 2, none⟩ (.int .i64 500) _ HB rfl (by kernel_rfl) (by kernel_rfl) (by kernel_rfl) (fun _ _ _ h => h) (by kernel_rfl) rfl (by kernel_rfl) (hkd.cell 2 500 rfl) hkd.lt Tryd.underlying2 rfl ?_
  refine ay_call 10 140 #[.agg #[.int .i64 ((spdE t).1.1), .int .i64 ((spdE t).1.2), .int .i64 ((spdE t).2)], .int .i64 500, .int .i64 1] (.agg #[.int .i64 ((thruE (fun a => scaleE a 500 1) (spdE t)).1.1), .int .i64 ((thruE (fun a => scaleE a 500 1) (spdE t)).1.2), .int .i64 ((thruE (fun a => scaleE a 500 1) (spdE t)).2)]) HB rfl (by kernel_rfl) (by kernel_rfl) (by kernel_rfl) (fun _ _ _ h => h) (by kernel_rfl) (fun _ => by kernel_rfl) (fun u hu => scaled_any ((spdE t).1.1) ((spdE t).1.2) ((spdE t).2) 500 1 u (okC.i3 (ok_speed t) (by omega) (by omega) (by omega) (by omega))) ?_
  refine ad_one 11 HL7 (by kernel_rfl) (bs_store 125 (.tmp 4) (.tmp 15) 0 g4 0 125 [.int .i64 0, .int .i64 0, .int .i64 0] [.int .i64 ((thruE (fun a => scaleE a 500 1) (spdE t)).1.1), .int .i64 ((thruE (fun a => scaleE a 500 1) (spdE t)).1.2), .int .i64 ((thruE (fun a => scaleE a 500 1) (spdE t)).2)] [.int .i64 ((thruE (fun a => scaleE a 500 1) (spdE t)).1.1), .int .i64 ((thruE (fun a => scaleE a 500 1) (spdE t)).1.2), .int .i64 ((thruE (fun a => scaleE a 500 1) (spdE t)).2)] [(g4, 125, [.int .i64 ((thruE (fun a => scaleE a 500 1) (spdE t)).1.1), .int .i64 ((thruE (fun a => scaleE a 500 1) (spdE t)).1.2), .int .i64 ((thruE (fun a => scaleE a 500 1) (spdE t)).2)]), (g1, 64, [.int .i64 1, .int .i64 B, .int .i64 T, .int .i64 M, .int .i64 C])] HB rfl (by kernel_rfl) rfl (by kernel_rfl) (by kernel_rfl) rfl (by kernel_rfl) (by kernel_rfl) (Nat.le_of_ble_eq_true rfl) rfl rfl (List.Sublist.cons _ (List.Sublist.cons_cons _ List.Sublist.slnil)) ?_)
  intro w15 HL16
  clear HL7
  refine ad_done HL16 (by kernel_rfl) (fun w18 HL17 => ?_)
  clear HL16
  refine aw_n_then ?_
  refine aw_ret ?_
  refine aw_end (.agg #[.int .i64 ((thruE (fun a => scaleE a 500 1) (spdE t)).1.1), .int .i64 ((thruE (fun a => scaleE a 500 1) (spdE t)).1.2), .int .i64 ((thruE (fun a => scaleE a 500 1) (spdE t)).2)]) (by kernel_rfl) (res_c Tryd.results82 (by kernel_rfl) (loc_var HL17 (i := 0) rfl Tryd.underlying125 rfl (by kernel_rfl))) ?_
  exact ⟨rfl, HL17.bel⟩

set_option maxRecDepth 100000 in
set_option maxHeartbeats 2000000 in
theorem atEnd_2 (B T M C : Int) (w : World) (hkd : KdL w) (hb : bdB 2 B T M C = true) : Calls Tryd.prog 139 #[.agg #[.int .i64 2, .int .i64 B, .int .i64 T, .int .i64 M, .int .i64 C]] w fun r w' => r = .returned (calV (endE 2 T)) ∧ Below w.heap.size w w' := by
  obtain ⟨hT1, hT2⟩ := bd_top hb
  refine calls_of_wp Tryd.func139 rfl ?_
  refine Boxw.out (ax_in ?_)
  have HB : Array.size ((#[.agg #[.int .i64 2, .int .i64 B, .int .i64 T, .int .i64 M, .int .i64 C]] : Array Value) ++ Array.replicate (Func.ntmps Tryd.f139 - Array.size (#[.agg #[.int .i64 2, .int .i64 B, .int .i64 T, .int .i64 M, .int .i64 C]] : Array Value)) undef) = 12 := by kernel_rfl
  have HL0 := Loc.start w
  refine aw_seq ?_
  refine aw_reg ?_
  refine ax_new 64 [.int .i64 2, .int .i64 B, .int .i64 T, .int .i64 M, .int .i64 C] HB HL0 (by kernel_rfl) (by kernel_rfl) ?_
  intro g1 w2 HL3
  clear HL0
  refine ax_new 125 [.int .i64 0, .int .i64 0, .int .i64 0] HB HL3 (by kernel_rfl) (by kernel_rfl) ?_
  intro g4 w5 HL6
  clear HL3
  refine aw_nil ?_
  refine aw_n_then ?_
  refine aw_seq ?_
  refine ad_start [(g1, 64, [.int .i64 2, .int .i64 B, .int .i64 T, .int .i64 M, .int .i64 C])] HL6 (by kernel_rfl) (List.Sublist.cons _ (List.Sublist.cons_cons _ List.Sublist.slnil)) rfl ?_
  intro w8 HL7
  clear HL6
  refine ay_val (v := .pointer (some ⟨g1, 2, none⟩)) 0 (.pointer (some ⟨g1, 2, none⟩)) HB rfl (by kernel_rfl) (by kernel_rfl) (by kernel_rfl) (fun _ _ _ h => h) (by kernel_rfl) (fun _ _ => by kernel_rfl) (rfl) ?_
  refine ay_load 1 2 (.tmp 3) 0 g1 2 64 [.int .i64 2, .int .i64 B, .int .i64 T, .int .i64 M, .int .i64 C] (.int .i64 T) _ HB rfl (by kernel_rfl) (by kernel_rfl) (by kernel_rfl) (fun _ _ _ h => h) (by kernel_rfl) rfl (by kernel_rfl) rfl rfl Tryd.underlying2 rfl ?_
  refine ay_call 2 171 #[.int .i64 T] (.agg #[.int .i64 T, .int .i64 T, .int .i64 0]) HB rfl (by kernel_rfl) (by kernel_rfl) (by kernel_rfl) (fun _ _ _ h => h) (by kernel_rfl) (fun _ => by kernel_rfl) (fun u hu => number_any T u) ?_
  refine ay_val (v := .pointer (some ⟨g1, 0, none⟩)) 3 (.pointer (some ⟨g1, 0, none⟩)) HB rfl (by kernel_rfl) (by kernel_rfl) (by kernel_rfl) (fun _ _ _ h => h) (by kernel_rfl) (fun _ _ => by kernel_rfl) (rfl) ?_
  refine ay_load 4 3 (.tmp 6) 0 g1 0 64 [.int .i64 2, .int .i64 B, .int .i64 T, .int .i64 M, .int .i64 C] (.int .i64 2) _ HB rfl (by kernel_rfl) (by kernel_rfl) (by kernel_rfl) (fun _ _ _ h => h) (by kernel_rfl) rfl (by kernel_rfl) rfl rfl Tryd.underlying3 rfl ?_
  refine ay_val (v := .pointer (some ⟨1, 4, none⟩)) 5 (.pointer (some ⟨1, 4, none⟩)) HB rfl (by kernel_rfl) (by kernel_rfl) (by kernel_rfl) (fun _ _ _ h => h) (by kernel_rfl) (fun _ _ => by kernel_rfl) (rfl) ?_
  refine ay_val (v := .pointer (some ⟨1, 5, none⟩)) 6 (.pointer (some ⟨1, 5, none⟩)) HB rfl (by kernel_rfl) (by kernel_rfl) (by kernel_rfl) (fun _ _ _ h => h) (by kernel_rfl) (fun _ _ => by kernel_rfl) (rfl) ?_
  refine ay_loadA 7 2 (.tmp 9) ⟨1, 5, none⟩ (.int .i64 0) _ HB rfl (by kernel_rfl) (by kernel_rfl) (by kernel_rfl) (fun _ _ _ h => h) (by kernel_rfl) rfl (by kernel_rfl) (hkd.cell 5 0 rfl) hkd.lt Tryd.underlying2 rfl ?_
  refine ay_call 8 140 #[.agg #[.int .i64 T, .int .i64 T, .int .i64 0], .int .i64 0, .int .i64 100000] (.agg #[.int .i64 ((thruE (fun a => scaleE a 0 100000) ((T, T), 0)).1.1), .int .i64 ((thruE (fun a => scaleE a 0 100000) ((T, T), 0)).1.2), .int .i64 ((thruE (fun a => scaleE a 0 100000) ((T, T), 0)).2)]) HB rfl (by kernel_rfl) (by kernel_rfl) (by kernel_rfl) (fun _ _ _ h => h) (by kernel_rfl) (fun _ => by kernel_rfl) (fun u hu => scaled_any T T 0 0 100000 u (okC.i3 (okC_small (e := 0) (by omega) (by omega) (by omega) (by omega) : okC ((T, T), 0)) (by omega) (by omega) (by omega) (by omega))) ?_
  refine ad_one 9 HL7 (by kernel_rfl) (bs_store 125 (.tmp 2) (.tmp 11) 0 g4 0 125 [.int .i64 0, .int .i64 0, .int .i64 0] [.int .i64 ((thruE (fun a => scaleE a 0 100000) ((T, T), 0)).1.1), .int .i64 ((thruE (fun a => scaleE a 0 100000) ((T, T), 0)).1.2), .int .i64 ((thruE (fun a => scaleE a 0 100000) ((T, T), 0)).2)] [.int .i64 ((thruE (fun a => scaleE a 0 100000) ((T, T), 0)).1.1), .int .i64 ((thruE (fun a => scaleE a 0 100000) ((T, T), 0)).1.2), .int .i64 ((thruE (fun a => scaleE a 0 100000) ((T, T), 0)).2)] [(g4, 125, [.int .i64 ((thruE (fun a => scaleE a 0 100000) ((T, T), 0)).1.1), .int .i64 ((thruE (fun a => scaleE a 0 100000) ((T, T), 0)).1.2), .int .i64 ((thruE (fun a => scaleE a 0 100000) ((T, T), 0)).2)]), (g1, 64, [.int .i64 2, .int .i64 B, .int .i64 T, .int .i64 M, .int .i64 C])] HB rfl (by kernel_rfl) rfl (by kernel_rfl) (by kernel_rfl) rfl (by kernel_rfl) (by kernel_rfl) (Nat.le_of_ble_eq_true rfl) rfl rfl (List.Sublist.cons _ (List.Sublist.cons_cons _ List.Sublist.slnil)) ?_)
  intro w13 HL14
  clear HL7
  refine ad_done HL14 (by kernel_rfl) (fun w16 HL15 => ?_)
  clear HL14
  refine aw_n_then ?_
  refine aw_ret ?_
  refine aw_end (.agg #[.int .i64 ((thruE (fun a => scaleE a 0 100000) ((T, T), 0)).1.1), .int .i64 ((thruE (fun a => scaleE a 0 100000) ((T, T), 0)).1.2), .int .i64 ((thruE (fun a => scaleE a 0 100000) ((T, T), 0)).2)]) (by kernel_rfl) (res_c Tryd.results139 (by kernel_rfl) (loc_var HL15 (i := 0) rfl Tryd.underlying125 rfl (by kernel_rfl))) ?_
  exact ⟨rfl, HL15.bel⟩

set_option maxRecDepth 100000 in
set_option maxHeartbeats 2000000 in
theorem slowest_2 (B T M C t : Int) (w : World) (hkd : KdL w) : Calls Tryd.prog 82 #[.agg #[.int .i64 2, .int .i64 B, .int .i64 T, .int .i64 M, .int .i64 C], .int .i64 t] w fun r w' => r = .returned (calV (wayE (spdE t) 2)) ∧ Below w.heap.size w w' := by
  refine calls_of_wp Tryd.func82 rfl ?_
  refine Boxw.out (ax_in ?_)
  have HB : Array.size ((#[.agg #[.int .i64 2, .int .i64 B, .int .i64 T, .int .i64 M, .int .i64 C], .int .i64 t] : Array Value) ++ Array.replicate (Func.ntmps Tryd.f82 - Array.size (#[.agg #[.int .i64 2, .int .i64 B, .int .i64 T, .int .i64 M, .int .i64 C], .int .i64 t] : Array Value)) undef) = 16 := by kernel_rfl
  have HL0 := Loc.start w
  refine aw_seq ?_
  refine aw_reg ?_
  refine ax_new 64 [.int .i64 2, .int .i64 B, .int .i64 T, .int .i64 M, .int .i64 C] HB HL0 (by kernel_rfl) (by kernel_rfl) ?_
  intro g1 w2 HL3
  clear HL0
  refine ax_new 125 [.int .i64 0, .int .i64 0, .int .i64 0] HB HL3 (by kernel_rfl) (by kernel_rfl) ?_
  intro g4 w5 HL6
  clear HL3
  refine aw_nil ?_
  refine aw_n_then ?_
  refine aw_seq ?_
  refine ad_start [(g1, 64, [.int .i64 2, .int .i64 B, .int .i64 T, .int .i64 M, .int .i64 C])] HL6 (by kernel_rfl) (List.Sublist.cons _ (List.Sublist.cons_cons _ List.Sublist.slnil)) rfl ?_
  intro w8 HL7
  clear HL6
  refine ay_val (v := .int .i64 t) 0 (.int .i64 t) HB rfl (by kernel_rfl) (by kernel_rfl) (by kernel_rfl) (fun _ _ _ h => h) (by kernel_rfl) (fun _ _ => by kernel_rfl) (rfl) ?_
  refine ay_call 1 31 #[.int .i64 t] (.tuple #[.agg #[.int .i64 ((spdE t).1.1), .int .i64 ((spdE t).1.2)], .int .i64 ((spdE t).2)]) HB rfl (by kernel_rfl) (by kernel_rfl) (by kernel_rfl) (fun _ _ _ h => h) (by kernel_rfl) (fun _ => by kernel_rfl) (fun u hu => Speed_val t u) ?_
  refine ay_val (v := .agg #[.int .i64 ((spdE t).1.1), .int .i64 ((spdE t).1.2)]) 2 (.agg #[.int .i64 ((spdE t).1.1), .int .i64 ((spdE t).1.2)]) HB rfl (by kernel_rfl) (by kernel_rfl) (by kernel_rfl) (fun _ _ _ h => h) (by kernel_rfl) (fun _ _ => by kernel_rfl) (rfl) ?_
  refine ay_val (v := .int .i64 ((spdE t).2)) 3 (.int .i64 ((spdE t).2)) HB rfl (by kernel_rfl) (by kernel_rfl) (by kernel_rfl) (fun _ _ _ h => h) (by kernel_rfl) (fun _ _ => by kernel_rfl) (rfl) ?_
  refine ay_call 4 135 #[.agg #[.int .i64 ((spdE t).1.1), .int .i64 ((spdE t).1.2)], .int .i64 ((spdE t).2)] (.agg #[.int .i64 ((spdE t).1.1), .int .i64 ((spdE t).1.2), .int .i64 ((spdE t).2)]) HB rfl (by kernel_rfl) (by kernel_rfl) (by kernel_rfl) (fun _ _ _ h => h) (by kernel_rfl) (fun _ => by kernel_rfl) (fun u hu => calculated_any ((spdE t).1.1) ((spdE t).1.2) ((spdE t).2) u) ?_
  refine ay_val (v := .pointer (some ⟨g1, 0, none⟩)) 5 (.pointer (some ⟨g1, 0, none⟩)) HB rfl (by kernel_rfl) (by kernel_rfl) (by kernel_rfl) (fun _ _ _ h => h) (by kernel_rfl) (fun _ _ => by kernel_rfl) (rfl) ?_
  refine ay_load 6 3 (.tmp 10) 0 g1 0 64 [.int .i64 2, .int .i64 B, .int .i64 T, .int .i64 M, .int .i64 C] (.int .i64 2) _ HB rfl (by kernel_rfl) (by kernel_rfl) (by kernel_rfl) (fun _ _ _ h => h) (by kernel_rfl) rfl (by kernel_rfl) rfl rfl Tryd.underlying3 rfl ?_
  refine ay_val (v := .pointer (some ⟨1, 4, none⟩)) 7 (.pointer (some ⟨1, 4, none⟩)) HB rfl (by kernel_rfl) (by kernel_rfl) (by kernel_rfl) (fun _ _ _ h => h) (by kernel_rfl) (fun _ _ => by kernel_rfl) (rfl) ?_
  refine ay_val (v := .pointer (some ⟨1, 4, none⟩)) 8 (.pointer (some ⟨1, 4, none⟩)) HB rfl (by kernel_rfl) (by kernel_rfl) (by kernel_rfl) (fun _ _ _ h => h) (by kernel_rfl) (fun _ _ => by kernel_rfl) (rfl) ?_
  refine ay_loadA 9 2 (.tmp 13) ⟨1, 4, none⟩ (.int .i64 250) _ HB rfl (by kernel_rfl) (by kernel_rfl) (by kernel_rfl) (fun _ _ _ h => h) (by kernel_rfl) rfl (by kernel_rfl) (hkd.cell 4 250 rfl) hkd.lt Tryd.underlying2 rfl ?_
  refine ay_call 10 140 #[.agg #[.int .i64 ((spdE t).1.1), .int .i64 ((spdE t).1.2), .int .i64 ((spdE t).2)], .int .i64 250, .int .i64 1] (.agg #[.int .i64 ((thruE (fun a => scaleE a 250 1) (spdE t)).1.1), .int .i64 ((thruE (fun a => scaleE a 250 1) (spdE t)).1.2), .int .i64 ((thruE (fun a => scaleE a 250 1) (spdE t)).2)]) HB rfl (by kernel_rfl) (by kernel_rfl) (by kernel_rfl) (fun _ _ _ h => h) (by kernel_rfl) (fun _ => by kernel_rfl) (fun u hu => scaled_any ((spdE t).1.1) ((spdE t).1.2) ((spdE t).2) 250 1 u (okC.i3 (ok_speed t) (by omega) (by omega) (by omega) (by omega))) ?_
  refine ad_one 11 HL7 (by kernel_rfl) (bs_store 125 (.tmp 4) (.tmp 15) 0 g4 0 125 [.int .i64 0, .int .i64 0, .int .i64 0] [.int .i64 ((thruE (fun a => scaleE a 250 1) (spdE t)).1.1), .int .i64 ((thruE (fun a => scaleE a 250 1) (spdE t)).1.2), .int .i64 ((thruE (fun a => scaleE a 250 1) (spdE t)).2)] [.int .i64 ((thruE (fun a => scaleE a 250 1) (spdE t)).1.1), .int .i64 ((thruE (fun a => scaleE a 250 1) (spdE t)).1.2), .int .i64 ((thruE (fun a => scaleE a 250 1) (spdE t)).2)] [(g4, 125, [.int .i64 ((thruE (fun a => scaleE a 250 1) (spdE t)).1.1), .int .i64 ((thruE (fun a => scaleE a 250 1) (spdE t)).1.2), .int .i64 ((thruE (fun a => scaleE a 250 1) (spdE t)).2)]), (g1, 64, [.int .i64 2, .int .i64 B, .int .i64 T, .int .i64 M, .int .i64 C])] HB rfl (by kernel_rfl) rfl (by kernel_rfl) (by kernel_rfl) rfl (by kernel_rfl) (by kernel_rfl) (Nat.le_of_ble_eq_true rfl) rfl rfl (List.Sublist.cons _ (List.Sublist.cons_cons _ List.Sublist.slnil)) ?_)
  intro w15 HL16
  clear HL7
  refine ad_done HL16 (by kernel_rfl) (fun w18 HL17 => ?_)
  clear HL16
  refine aw_n_then ?_
  refine aw_ret ?_
  refine aw_end (.agg #[.int .i64 ((thruE (fun a => scaleE a 250 1) (spdE t)).1.1), .int .i64 ((thruE (fun a => scaleE a 250 1) (spdE t)).1.2), .int .i64 ((thruE (fun a => scaleE a 250 1) (spdE t)).2)]) (by kernel_rfl) (res_c Tryd.results82 (by kernel_rfl) (loc_var HL17 (i := 0) rfl Tryd.underlying125 rfl (by kernel_rfl))) ?_
  exact ⟨rfl, HL17.bel⟩

set_option maxRecDepth 100000 in
set_option maxHeartbeats 2000000 in
theorem atEnd_3 (B T M C : Int) (w : World) (hkd : KdL w) (hb : bdB 3 B T M C = true) : Calls Tryd.prog 139 #[.agg #[.int .i64 3, .int .i64 B, .int .i64 T, .int .i64 M, .int .i64 C]] w fun r w' => r = .returned (calV (endE 3 T)) ∧ Below w.heap.size w w' := by
  obtain ⟨hT1, hT2⟩ := bd_top hb
  refine calls_of_wp Tryd.func139 rfl ?_
  refine Boxw.out (ax_in ?_)
  have HB : Array.size ((#[.agg #[.int .i64 3, .int .i64 B, .int .i64 T, .int .i64 M, .int .i64 C]] : Array Value) ++ Array.replicate (Func.ntmps Tryd.f139 - Array.size (#[.agg #[.int .i64 3, .int .i64 B, .int .i64 T, .int .i64 M, .int .i64 C]] : Array Value)) undef) = 12 := by kernel_rfl
  have HL0 := Loc.start w
  refine aw_seq ?_
  refine aw_reg ?_
  refine ax_new 64 [.int .i64 3, .int .i64 B, .int .i64 T, .int .i64 M, .int .i64 C] HB HL0 (by kernel_rfl) (by kernel_rfl) ?_
  intro g1 w2 HL3
  clear HL0
  refine ax_new 125 [.int .i64 0, .int .i64 0, .int .i64 0] HB HL3 (by kernel_rfl) (by kernel_rfl) ?_
  intro g4 w5 HL6
  clear HL3
  refine aw_nil ?_
  refine aw_n_then ?_
  refine aw_seq ?_
  refine ad_start [(g1, 64, [.int .i64 3, .int .i64 B, .int .i64 T, .int .i64 M, .int .i64 C])] HL6 (by kernel_rfl) (List.Sublist.cons _ (List.Sublist.cons_cons _ List.Sublist.slnil)) rfl ?_
  intro w8 HL7
  clear HL6
  refine ay_val (v := .pointer (some ⟨g1, 2, none⟩)) 0 (.pointer (some ⟨g1, 2, none⟩)) HB rfl (by kernel_rfl) (by kernel_rfl) (by kernel_rfl) (fun _ _ _ h => h) (by kernel_rfl) (fun _ _ => by kernel_rfl) (rfl) ?_
  refine ay_load 1 2 (.tmp 3) 0 g1 2 64 [.int .i64 3, .int .i64 B, .int .i64 T, .int .i64 M, .int .i64 C] (.int .i64 T) _ HB rfl (by kernel_rfl) (by kernel_rfl) (by kernel_rfl) (fun _ _ _ h => h) (by kernel_rfl) rfl (by kernel_rfl) rfl rfl Tryd.underlying2 rfl ?_
  refine ay_call 2 171 #[.int .i64 T] (.agg #[.int .i64 T, .int .i64 T, .int .i64 0]) HB rfl (by kernel_rfl) (by kernel_rfl) (by kernel_rfl) (fun _ _ _ h => h) (by kernel_rfl) (fun _ => by kernel_rfl) (fun u hu => number_any T u) ?_
  refine ay_val (v := .pointer (some ⟨g1, 0, none⟩)) 3 (.pointer (some ⟨g1, 0, none⟩)) HB rfl (by kernel_rfl) (by kernel_rfl) (by kernel_rfl) (fun _ _ _ h => h) (by kernel_rfl) (fun _ _ => by kernel_rfl) (rfl) ?_
  refine ay_load 4 3 (.tmp 6) 0 g1 0 64 [.int .i64 3, .int .i64 B, .int .i64 T, .int .i64 M, .int .i64 C] (.int .i64 3) _ HB rfl (by kernel_rfl) (by kernel_rfl) (by kernel_rfl) (fun _ _ _ h => h) (by kernel_rfl) rfl (by kernel_rfl) rfl rfl Tryd.underlying3 rfl ?_
  refine ay_val (v := .pointer (some ⟨1, 6, none⟩)) 5 (.pointer (some ⟨1, 6, none⟩)) HB rfl (by kernel_rfl) (by kernel_rfl) (by kernel_rfl) (fun _ _ _ h => h) (by kernel_rfl) (fun _ _ => by kernel_rfl) (rfl) ?_
  refine ay_val (v := .pointer (some ⟨1, 7, none⟩)) 6 (.pointer (some ⟨1, 7, none⟩)) HB rfl (by kernel_rfl) (by kernel_rfl) (by kernel_rfl) (fun _ _ _ h => h) (by kernel_rfl) (fun _ _ => by kernel_rfl) (rfl) ?_
  refine ay_loadA 7 2 (.tmp 9) ⟨1, 7, none⟩ (.int .i64 30665) _ HB rfl (by kernel_rfl) (by kernel_rfl) (by kernel_rfl) (fun _ _ _ h => h) (by kernel_rfl) rfl (by kernel_rfl) (hkd.cell 7 30665 rfl) hkd.lt Tryd.underlying2 rfl ?_
  refine ay_call 8 140 #[.agg #[.int .i64 T, .int .i64 T, .int .i64 0], .int .i64 30665, .int .i64 100000] (.agg #[.int .i64 ((thruE (fun a => scaleE a 30665 100000) ((T, T), 0)).1.1), .int .i64 ((thruE (fun a => scaleE a 30665 100000) ((T, T), 0)).1.2), .int .i64 ((thruE (fun a => scaleE a 30665 100000) ((T, T), 0)).2)]) HB rfl (by kernel_rfl) (by kernel_rfl) (by kernel_rfl) (fun _ _ _ h => h) (by kernel_rfl) (fun _ => by kernel_rfl) (fun u hu => scaled_any T T 0 30665 100000 u (okC.i3 (okC_small (e := 0) (by omega) (by omega) (by omega) (by omega) : okC ((T, T), 0)) (by omega) (by omega) (by omega) (by omega))) ?_
  refine ad_one 9 HL7 (by kernel_rfl) (bs_store 125 (.tmp 2) (.tmp 11) 0 g4 0 125 [.int .i64 0, .int .i64 0, .int .i64 0] [.int .i64 ((thruE (fun a => scaleE a 30665 100000) ((T, T), 0)).1.1), .int .i64 ((thruE (fun a => scaleE a 30665 100000) ((T, T), 0)).1.2), .int .i64 ((thruE (fun a => scaleE a 30665 100000) ((T, T), 0)).2)] [.int .i64 ((thruE (fun a => scaleE a 30665 100000) ((T, T), 0)).1.1), .int .i64 ((thruE (fun a => scaleE a 30665 100000) ((T, T), 0)).1.2), .int .i64 ((thruE (fun a => scaleE a 30665 100000) ((T, T), 0)).2)] [(g4, 125, [.int .i64 ((thruE (fun a => scaleE a 30665 100000) ((T, T), 0)).1.1), .int .i64 ((thruE (fun a => scaleE a 30665 100000) ((T, T), 0)).1.2), .int .i64 ((thruE (fun a => scaleE a 30665 100000) ((T, T), 0)).2)]), (g1, 64, [.int .i64 3, .int .i64 B, .int .i64 T, .int .i64 M, .int .i64 C])] HB rfl (by kernel_rfl) rfl (by kernel_rfl) (by kernel_rfl) rfl (by kernel_rfl) (by kernel_rfl) (Nat.le_of_ble_eq_true rfl) rfl rfl (List.Sublist.cons _ (List.Sublist.cons_cons _ List.Sublist.slnil)) ?_)
  intro w13 HL14
  clear HL7
  refine ad_done HL14 (by kernel_rfl) (fun w16 HL15 => ?_)
  clear HL14
  refine aw_n_then ?_
  refine aw_ret ?_
  refine aw_end (.agg #[.int .i64 ((thruE (fun a => scaleE a 30665 100000) ((T, T), 0)).1.1), .int .i64 ((thruE (fun a => scaleE a 30665 100000) ((T, T), 0)).1.2), .int .i64 ((thruE (fun a => scaleE a 30665 100000) ((T, T), 0)).2)]) (by kernel_rfl) (res_c Tryd.results139 (by kernel_rfl) (loc_var HL15 (i := 0) rfl Tryd.underlying125 rfl (by kernel_rfl))) ?_
  exact ⟨rfl, HL15.bel⟩

set_option maxRecDepth 100000 in
set_option maxHeartbeats 2000000 in
theorem slowest_3 (B T M C t : Int) (w : World) (hkd : KdL w) : Calls Tryd.prog 82 #[.agg #[.int .i64 3, .int .i64 B, .int .i64 T, .int .i64 M, .int .i64 C], .int .i64 t] w fun r w' => r = .returned (calV (wayE (spdE t) 3)) ∧ Below w.heap.size w w' := by
  refine calls_of_wp Tryd.func82 rfl ?_
  refine Boxw.out (ax_in ?_)
  have HB : Array.size ((#[.agg #[.int .i64 3, .int .i64 B, .int .i64 T, .int .i64 M, .int .i64 C], .int .i64 t] : Array Value) ++ Array.replicate (Func.ntmps Tryd.f82 - Array.size (#[.agg #[.int .i64 3, .int .i64 B, .int .i64 T, .int .i64 M, .int .i64 C], .int .i64 t] : Array Value)) undef) = 16 := by kernel_rfl
  have HL0 := Loc.start w
  refine aw_seq ?_
  refine aw_reg ?_
  refine ax_new 64 [.int .i64 3, .int .i64 B, .int .i64 T, .int .i64 M, .int .i64 C] HB HL0 (by kernel_rfl) (by kernel_rfl) ?_
  intro g1 w2 HL3
  clear HL0
  refine ax_new 125 [.int .i64 0, .int .i64 0, .int .i64 0] HB HL3 (by kernel_rfl) (by kernel_rfl) ?_
  intro g4 w5 HL6
  clear HL3
  refine aw_nil ?_
  refine aw_n_then ?_
  refine aw_seq ?_
  refine ad_start [(g1, 64, [.int .i64 3, .int .i64 B, .int .i64 T, .int .i64 M, .int .i64 C])] HL6 (by kernel_rfl) (List.Sublist.cons _ (List.Sublist.cons_cons _ List.Sublist.slnil)) rfl ?_
  intro w8 HL7
  clear HL6
  refine ay_val (v := .int .i64 t) 0 (.int .i64 t) HB rfl (by kernel_rfl) (by kernel_rfl) (by kernel_rfl) (fun _ _ _ h => h) (by kernel_rfl) (fun _ _ => by kernel_rfl) (rfl) ?_
  refine ay_call 1 31 #[.int .i64 t] (.tuple #[.agg #[.int .i64 ((spdE t).1.1), .int .i64 ((spdE t).1.2)], .int .i64 ((spdE t).2)]) HB rfl (by kernel_rfl) (by kernel_rfl) (by kernel_rfl) (fun _ _ _ h => h) (by kernel_rfl) (fun _ => by kernel_rfl) (fun u hu => Speed_val t u) ?_
  refine ay_val (v := .agg #[.int .i64 ((spdE t).1.1), .int .i64 ((spdE t).1.2)]) 2 (.agg #[.int .i64 ((spdE t).1.1), .int .i64 ((spdE t).1.2)]) HB rfl (by kernel_rfl) (by kernel_rfl) (by kernel_rfl) (fun _ _ _ h => h) (by kernel_rfl) (fun _ _ => by kernel_rfl) (rfl) ?_
  refine ay_val (v := .int .i64 ((spdE t).2)) 3 (.int .i64 ((spdE t).2)) HB rfl (by kernel_rfl) (by kernel_rfl) (by kernel_rfl) (fun _ _ _ h => h) (by kernel_rfl) (fun _ _ => by kernel_rfl) (rfl) ?_
  refine ay_call 4 135 #[.agg #[.int .i64 ((spdE t).1.1), .int .i64 ((spdE t).1.2)], .int .i64 ((spdE t).2)] (.agg #[.int .i64 ((spdE t).1.1), .int .i64 ((spdE t).1.2), .int .i64 ((spdE t).2)]) HB rfl (by kernel_rfl) (by kernel_rfl) (by kernel_rfl) (fun _ _ _ h => h) (by kernel_rfl) (fun _ => by kernel_rfl) (fun u hu => calculated_any ((spdE t).1.1) ((spdE t).1.2) ((spdE t).2) u) ?_
  refine ay_val (v := .pointer (some ⟨g1, 0, none⟩)) 5 (.pointer (some ⟨g1, 0, none⟩)) HB rfl (by kernel_rfl) (by kernel_rfl) (by kernel_rfl) (fun _ _ _ h => h) (by kernel_rfl) (fun _ _ => by kernel_rfl) (rfl) ?_
  refine ay_load 6 3 (.tmp 10) 0 g1 0 64 [.int .i64 3, .int .i64 B, .int .i64 T, .int .i64 M, .int .i64 C] (.int .i64 3) _ HB rfl (by kernel_rfl) (by kernel_rfl) (by kernel_rfl) (fun _ _ _ h => h) (by kernel_rfl) rfl (by kernel_rfl) rfl rfl Tryd.underlying3 rfl ?_
  refine ay_val (v := .pointer (some ⟨1, 6, none⟩)) 7 (.pointer (some ⟨1, 6, none⟩)) HB rfl (by kernel_rfl) (by kernel_rfl) (by kernel_rfl) (fun _ _ _ h => h) (by kernel_rfl) (fun _ _ => by kernel_rfl) (rfl) ?_
  refine ay_val (v := .pointer (some ⟨1, 6, none⟩)) 8 (.pointer (some ⟨1, 6, none⟩)) HB rfl (by kernel_rfl) (by kernel_rfl) (by kernel_rfl) (fun _ _ _ h => h) (by kernel_rfl) (fun _ _ => by kernel_rfl) (rfl) ?_
  refine ay_loadA 9 2 (.tmp 13) ⟨1, 6, none⟩ (.int .i64 500) _ HB rfl (by kernel_rfl) (by kernel_rfl) (by kernel_rfl) (fun _ _ _ h => h) (by kernel_rfl) rfl (by kernel_rfl) (hkd.cell 6 500 rfl) hkd.lt Tryd.underlying2 rfl ?_
  refine ay_call 10 140 #[.agg #[.int .i64 ((spdE t).1.1), .int .i64 ((spdE t).1.2), .int .i64 ((spdE t).2)], .int .i64 500, .int .i64 1] (.agg #[.int .i64 ((thruE (fun a => scaleE a 500 1) (spdE t)).1.1), .int .i64 ((thruE (fun a => scaleE a 500 1) (spdE t)).1.2), .int .i64 ((thruE (fun a => scaleE a 500 1) (spdE t)).2)]) HB rfl (by kernel_rfl) (by kernel_rfl) (by kernel_rfl) (fun _ _ _ h => h) (by kernel_rfl) (fun _ => by kernel_rfl) (fun u hu => scaled_any ((spdE t).1.1) ((spdE t).1.2) ((spdE t).2) 500 1 u (okC.i3 (ok_speed t) (by omega) (by omega) (by omega) (by omega))) ?_
  refine ad_one 11 HL7 (by kernel_rfl) (bs_store 125 (.tmp 4) (.tmp 15) 0 g4 0 125 [.int .i64 0, .int .i64 0, .int .i64 0] [.int .i64 ((thruE (fun a => scaleE a 500 1) (spdE t)).1.1), .int .i64 ((thruE (fun a => scaleE a 500 1) (spdE t)).1.2), .int .i64 ((thruE (fun a => scaleE a 500 1) (spdE t)).2)] [.int .i64 ((thruE (fun a => scaleE a 500 1) (spdE t)).1.1), .int .i64 ((thruE (fun a => scaleE a 500 1) (spdE t)).1.2), .int .i64 ((thruE (fun a => scaleE a 500 1) (spdE t)).2)] [(g4, 125, [.int .i64 ((thruE (fun a => scaleE a 500 1) (spdE t)).1.1), .int .i64 ((thruE (fun a => scaleE a 500 1) (spdE t)).1.2), .int .i64 ((thruE (fun a => scaleE a 500 1) (spdE t)).2)]), (g1, 64, [.int .i64 3, .int .i64 B, .int .i64 T, .int .i64 M, .int .i64 C])] HB rfl (by kernel_rfl) rfl (by kernel_rfl) (by kernel_rfl) rfl (by kernel_rfl) (by kernel_rfl) (Nat.le_of_ble_eq_true rfl) rfl rfl (List.Sublist.cons _ (List.Sublist.cons_cons _ List.Sublist.slnil)) ?_)
  intro w15 HL16
  clear HL7
  refine ad_done HL16 (by kernel_rfl) (fun w18 HL17 => ?_)
  clear HL16
  refine aw_n_then ?_
  refine aw_ret ?_
  refine aw_end (.agg #[.int .i64 ((thruE (fun a => scaleE a 500 1) (spdE t)).1.1), .int .i64 ((thruE (fun a => scaleE a 500 1) (spdE t)).1.2), .int .i64 ((thruE (fun a => scaleE a 500 1) (spdE t)).2)]) (by kernel_rfl) (res_c Tryd.results82 (by kernel_rfl) (loc_var HL17 (i := 0) rfl Tryd.underlying125 rfl (by kernel_rfl))) ?_
  exact ⟨rfl, HL17.bel⟩

theorem kinds3 {k B T M C : Int} (hb : bdB k B T M C = true) : k = 1 ∨ k = 2 ∨ k = 3 := by
  obtain ⟨⟨h1, h2⟩, -⟩ := bdB_iff.1 hb
  omega
theorem atEnd_any (k B T M C : Int) (w : World) (hkd : KdL w) (hb : bdB k B T M C = true) : Calls Tryd.prog 139 #[.agg #[.int .i64 k, .int .i64 B, .int .i64 T, .int .i64 M, .int .i64 C]] w fun r w' => r = .returned (calV (endE k T)) ∧ Below w.heap.size w w' := by
  rcases kinds3 hb with rfl | rfl | rfl
  · exact atEnd_1 B T M C w hkd hb
  · exact atEnd_2 B T M C w hkd hb
  · exact atEnd_3 B T M C w hkd hb
theorem slowest_any (k B T M C t : Int) (w : World) (hkd : KdL w) (hb : bdB k B T M C = true) : Calls Tryd.prog 82 #[.agg #[.int .i64 k, .int .i64 B, .int .i64 T, .int .i64 M, .int .i64 C], .int .i64 t] w fun r w' => r = .returned (calV (wayE (spdE t) k)) ∧ Below w.heap.size w w' := by
  rcases kinds3 hb with rfl | rfl | rfl
  · exact slowest_1 B T M C t w hkd
  · exact slowest_2 B T M C t w hkd
  · exact slowest_3 B T M C t w hkd
theorem ok_way {k : Int} (t : Int) : okC (wayE (spdE t) k) := ok_thru (ok_scale _ _) (ok_speed t)
set_option maxRecDepth 100000 in
set_option maxHeartbeats 2000000 in
theorem correction_any (k B T M C : Int) (w : World) (hkd : KdL w) (hb : bdB k B T M C = true) : Calls Tryd.prog 81 #[.agg #[.int .i64 k, .int .i64 B, .int .i64 T, .int .i64 M, .int .i64 C]] w fun r w' => r = .returned (calV (corrE k B T M C)) ∧ Below w.heap.size w w' := by
  refine calls_of_wp Tryd.func81 rfl ?_
  refine Boxw.out (ax_in ?_)
  have HB : Array.size ((#[.agg #[.int .i64 k, .int .i64 B, .int .i64 T, .int .i64 M, .int .i64 C]] : Array Value) ++ Array.replicate (Func.ntmps Tryd.f81 - Array.size (#[.agg #[.int .i64 k, .int .i64 B, .int .i64 T, .int .i64 M, .int .i64 C]] : Array Value)) undef) = 8 := by kernel_rfl
  have HL0 := Loc.start w
  refine aw_seq ?_
  refine aw_reg ?_
  refine ax_new 64 [.int .i64 k, .int .i64 B, .int .i64 T, .int .i64 M, .int .i64 C] HB HL0 (by kernel_rfl) (by kernel_rfl) ?_
  intro g1 w2 HL3
  clear HL0
  refine ax_new 125 [.int .i64 0, .int .i64 0, .int .i64 0] HB HL3 (by kernel_rfl) (by kernel_rfl) ?_
  intro g4 w5 HL6
  clear HL3
  refine aw_nil ?_
  refine aw_n_then ?_
  refine aw_seq ?_
  refine ad_start [(g1, 64, [.int .i64 k, .int .i64 B, .int .i64 T, .int .i64 M, .int .i64 C])] HL6 (by kernel_rfl) (List.Sublist.cons _ (List.Sublist.cons_cons _ List.Sublist.slnil)) rfl ?_
  intro w8 HL7
  clear HL6
  refine ay_mid 0 64 (.tmp 1) 0 g1 0 64 [.int .i64 k, .int .i64 B, .int .i64 T, .int .i64 M, .int .i64 C] [.int .i64 k, .int .i64 B, .int .i64 T, .int .i64 M, .int .i64 C] _ HB rfl (by kernel_rfl) (by kernel_rfl) (by kernel_rfl) (fun _ _ _ h => h) (by kernel_rfl) rfl (by kernel_rfl) rfl rfl Tryd.underlying64 rfl (by kernel_rfl) ?_
  refine ay_call 1 138 #[.agg #[.int .i64 k, .int .i64 B, .int .i64 T, .int .i64 M, .int .i64 C]] (.agg #[.int .i64 ((mouthE B M C).1.1), .int .i64 ((mouthE B M C).1.2), .int .i64 ((mouthE B M C).2)]) HB rfl (by kernel_rfl) (by kernel_rfl) (by kernel_rfl) (fun _ _ _ h => h) (by kernel_rfl) (fun _ => by kernel_rfl) (fun u hu => atMouth_any k B T M C u hb) ?_
  refine ay_mid 2 64 (.tmp 1) 0 g1 0 64 [.int .i64 k, .int .i64 B, .int .i64 T, .int .i64 M, .int .i64 C] [.int .i64 k, .int .i64 B, .int .i64 T, .int .i64 M, .int .i64 C] _ HB rfl (by kernel_rfl) (by kernel_rfl) (by kernel_rfl) (fun _ _ _ h => h) (by kernel_rfl) rfl (by kernel_rfl) rfl rfl Tryd.underlying64 rfl (by kernel_rfl) ?_
  refine ay_call 3 139 #[.agg #[.int .i64 k, .int .i64 B, .int .i64 T, .int .i64 M, .int .i64 C]] (.agg #[.int .i64 ((endE k T).1.1), .int .i64 ((endE k T).1.2), .int .i64 ((endE k T).2)]) HB rfl (by kernel_rfl) (by kernel_rfl) (by kernel_rfl) (fun _ _ _ h => h) (by kernel_rfl) (fun _ => by kernel_rfl) (fun u hu => atEnd_any k B T M C u (hkd.loc hu) hb) ?_
  refine ay_call 4 80 #[.agg #[.int .i64 ((mouthE B M C).1.1), .int .i64 ((mouthE B M C).1.2), .int .i64 ((mouthE B M C).2)], .agg #[.int .i64 ((endE k T).1.1), .int .i64 ((endE k T).1.2), .int .i64 ((endE k T).2)]] (.agg #[.int .i64 ((withE addW (mouthE B M C) (endE k T)).1.1), .int .i64 ((withE addW (mouthE B M C) (endE k T)).1.2), .int .i64 ((withE addW (mouthE B M C) (endE k T)).2)]) HB rfl (by kernel_rfl) (by kernel_rfl) (by kernel_rfl) (fun _ _ _ h => h) (by kernel_rfl) (fun _ => by kernel_rfl) (fun u hu => plus_any ((mouthE B M C).1.1) ((mouthE B M C).1.2) ((mouthE B M C).2) ((endE k T).1.1) ((endE k T).1.2) ((endE k T).2) u (okC.two (ok_mouth hb) (ok_end hb))) ?_
  refine ad_one 5 HL7 (by kernel_rfl) (bs_store 125 (.tmp 2) (.tmp 7) 0 g4 0 125 [.int .i64 0, .int .i64 0, .int .i64 0] [.int .i64 ((withE addW (mouthE B M C) (endE k T)).1.1), .int .i64 ((withE addW (mouthE B M C) (endE k T)).1.2), .int .i64 ((withE addW (mouthE B M C) (endE k T)).2)] [.int .i64 ((withE addW (mouthE B M C) (endE k T)).1.1), .int .i64 ((withE addW (mouthE B M C) (endE k T)).1.2), .int .i64 ((withE addW (mouthE B M C) (endE k T)).2)] [(g4, 125, [.int .i64 ((withE addW (mouthE B M C) (endE k T)).1.1), .int .i64 ((withE addW (mouthE B M C) (endE k T)).1.2), .int .i64 ((withE addW (mouthE B M C) (endE k T)).2)]), (g1, 64, [.int .i64 k, .int .i64 B, .int .i64 T, .int .i64 M, .int .i64 C])] HB rfl (by kernel_rfl) rfl (by kernel_rfl) (by kernel_rfl) rfl (by kernel_rfl) (by kernel_rfl) (Nat.le_of_ble_eq_true rfl) rfl rfl (List.Sublist.cons _ (List.Sublist.cons_cons _ List.Sublist.slnil)) ?_)
  intro w15 HL16
  clear HL7
  refine ad_done HL16 (by kernel_rfl) (fun w18 HL17 => ?_)
  clear HL16
  refine aw_n_then ?_
  refine aw_ret ?_
  refine aw_end (.agg #[.int .i64 ((withE addW (mouthE B M C) (endE k T)).1.1), .int .i64 ((withE addW (mouthE B M C) (endE k T)).1.2), .int .i64 ((withE addW (mouthE B M C) (endE k T)).2)]) (by kernel_rfl) (res_c Tryd.results81 (by kernel_rfl) (loc_var HL17 (i := 0) rfl Tryd.underlying125 rfl (by kernel_rfl))) ?_
  exact ⟨rfl, HL17.bel⟩

set_option maxRecDepth 100000 in
set_option maxHeartbeats 2000000 in
theorem given_any (x y l m : Int) (w : World) (hI : I64 x ∧ I64 y) : Calls Tryd.prog 79 #[.agg #[.int .i64 x, .int .i64 y], .int .i64 l, .int .i64 m] w fun r w' => r = .returned (calV (limE ((x, y), 0) l m 2)) ∧ Below w.heap.size w w' := by
  refine calls_of_wp Tryd.func79 rfl ?_
  refine Boxw.out (ax_in ?_)
  have HB : Array.size ((#[.agg #[.int .i64 x, .int .i64 y], .int .i64 l, .int .i64 m] : Array Value) ++ Array.replicate (Func.ntmps Tryd.f79 - Array.size (#[.agg #[.int .i64 x, .int .i64 y], .int .i64 l, .int .i64 m] : Array Value)) undef) = 12 := by kernel_rfl
  have HL0 := Loc.start w
  refine aw_seq ?_
  refine aw_reg ?_
  refine ax_new 55 [.int .i64 x, .int .i64 y] HB HL0 (by kernel_rfl) (by kernel_rfl) ?_
  intro g1 w2 HL3
  clear HL0
  refine ax_new 125 [.int .i64 0, .int .i64 0, .int .i64 0] HB HL3 (by kernel_rfl) (by kernel_rfl) ?_
  intro g4 w5 HL6
  clear HL3
  refine aw_nil ?_
  refine aw_n_then ?_
  refine aw_seq ?_
  refine aw_reg ?_
  refine ax_mid 55 (.tmp 3) 1 g1 0 55 [.int .i64 x, .int .i64 y] [.int .i64 x, .int .i64 y] _ HB HL6 (by kernel_rfl) rfl (by kernel_rfl) rfl rfl Tryd.underlying55 rfl (by kernel_rfl) ?_
  refine ax_call 135 #[.agg #[.int .i64 x, .int .i64 y], .int .i64 0] (.agg #[.int .i64 x, .int .i64 y, .int .i64 0]) HB HL6 (by kernel_rfl) (by kernel_rfl) (calculated_any x y 0 w5) ?_
  intro w7 HL8
  clear HL6
  refine ax_val (v := .int .i64 l) (.int .i64 l) HB (by kernel_rfl) (by kernel_rfl) (rfl) ?_
  refine ax_val (v := .int .i64 m) (.int .i64 m) HB (by kernel_rfl) (by kernel_rfl) (rfl) ?_
  refine ax_call 84 #[.agg #[.int .i64 x, .int .i64 y, .int .i64 0], .int .i64 l, .int .i64 m, .int .i64 2] (.agg #[.int .i64 ((limE ((x, y), 0) l m 2).1.1), .int .i64 ((limE ((x, y), 0) l m 2).1.2), .int .i64 ((limE ((x, y), 0) l m 2).2)]) HB HL8 (by kernel_rfl) (by kernel_rfl) (limited_any x y 0 l m 2 w7) ?_
  intro w9 HL10
  clear HL8
  refine ax_store 125 (.tmp 6) (.tmp 11) 0 g4 0 125 [.int .i64 0, .int .i64 0, .int .i64 0] [.int .i64 ((limE ((x, y), 0) l m 2).1.1), .int .i64 ((limE ((x, y), 0) l m 2).1.2), .int .i64 ((limE ((x, y), 0) l m 2).2)] [.int .i64 ((limE ((x, y), 0) l m 2).1.1), .int .i64 ((limE ((x, y), 0) l m 2).1.2), .int .i64 ((limE ((x, y), 0) l m 2).2)] [(g4, 125, [.int .i64 ((limE ((x, y), 0) l m 2).1.1), .int .i64 ((limE ((x, y), 0) l m 2).1.2), .int .i64 ((limE ((x, y), 0) l m 2).2)]), (g1, 55, [.int .i64 x, .int .i64 y])] HB HL10 (by kernel_rfl) rfl (by kernel_rfl) (by kernel_rfl) rfl (by kernel_rfl) (by kernel_rfl) (Nat.le_of_ble_eq_true rfl) rfl rfl ?_
  intro w11 HL12
  clear HL10
  refine aw_nil ?_
  refine aw_n_then ?_
  refine aw_ret ?_
  refine aw_end (.agg #[.int .i64 ((limE ((x, y), 0) l m 2).1.1), .int .i64 ((limE ((x, y), 0) l m 2).1.2), .int .i64 ((limE ((x, y), 0) l m 2).2)]) (by kernel_rfl) (res_c Tryd.results79 (by kernel_rfl) (loc_var HL12 (i := 0) rfl Tryd.underlying125 rfl (by kernel_rfl))) ?_
  exact ⟨rfl, HL12.bel⟩

end Go.Proofs.YtmbcejldifobnaaDoor.Ln

namespace Go.Proofs.YtmbcejldifobnaaDoor
open Go.ChangeShapes Go.WideShapes Go.ChangeAt Go.RowKit Go.Deep
theorem trod_struct5 {H : Type} {enc : TypeId × Value → H} {P : Program} {w : World} {base : Nat} {spare : Nat → Bool} {held : Bool} {t : TypeId} {f0 f1 f2 f3 f4 : Field} {fuel : Nat} {cs : List Value} {x : DataW H × List MemPlace} (ht : P.underlying t = some (.struct #[f0, f1, f2, f3, f4])) (h : DataW.trod enc P w base spare held fuel t cs = some x) :
    ∃ y0 y1 y2 y3 y4 n, DataW.trod enc P w base spare held n f0.type ((cs.drop f0.offset).take (P.cellsOf f0.type)) = some y0 ∧ DataW.trod enc P w base spare held n f1.type ((cs.drop f1.offset).take (P.cellsOf f1.type)) = some y1 ∧ DataW.trod enc P w base spare held n f2.type ((cs.drop f2.offset).take (P.cellsOf f2.type)) = some y2 ∧ DataW.trod enc P w base spare held n f3.type ((cs.drop f3.offset).take (P.cellsOf f3.type)) = some y3 ∧ DataW.trod enc P w base spare held n f4.type ((cs.drop f4.offset).take (P.cellsOf f4.type)) = some y4 := by
  obtain ⟨xs, n, _, rfl, hl, hlen, hf⟩ := DataW.trod_struct ht h
  match xs, hlen with
  | [y0, y1, y2, y3, y4], _ => exact ⟨y0, y1, y2, y3, y4, n, by simpa using hf 0 f0 rfl, by simpa using hf 1 f1 rfl, by simpa using hf 2 f2 rfl, by simpa using hf 3 f3 rfl, by simpa using hf 4 f4 rfl⟩
theorem wf_i64 {n : Int} (h : (Lit.int .i64 n).wf = true) : Sp.I64 n := by
  have h' : (decide (-9223372036854775808 ≤ n) && decide (n ≤ 9223372036854775807)) = true := h
  rw [Bool.and_eq_true, decide_eq_true_eq, decide_eq_true_eq] at h'
  exact h'
theorem wf_u16 {n : Int} (h : (Lit.int .u16 n).wf = true) : 0 ≤ n ∧ n ≤ 65535 := by
  have h' : (decide (0 ≤ n) && decide (n ≤ 65535)) = true := h
  rwa [Bool.and_eq_true, decide_eq_true_eq, decide_eq_true_eq] at h'
theorem len2 {cs : List Value} (h : cs.length = 2) : ∃ a b, cs = [a, b] := by
  match cs, h with
  | [a, b], _ => exact ⟨a, b, rfl⟩
theorem len9 {cs : List Value} (h : cs.length = 9) : ∃ a b c d e f g i j, cs = [a, b, c, d, e, f, g, i, j] := by
  match cs, h with
  | [a, b, c, d, e, f, g, i, j], _ => exact ⟨a, b, c, d, e, f, g, i, j, rfl⟩
theorem open_bd {H : Type} {enc : TypeId × Value → H} {w : World} {base n : Nat} {sp : Nat → Bool} {held : Bool} {a b c d e : Value} {y : DataW H × List MemPlace} (h : DataW.trod enc Tryd.prog w base sp held n 64 [a, b, c, d, e] = some y) : ∃ k B T M C : Int, a = .int .i64 k ∧ b = .int .i64 B ∧ c = .int .i64 T ∧ d = .int .i64 M ∧ e = .int .i64 C := by
  have hI : Tryd.prog.cellsOf 3 = 1 := by kernel_rfl
  have hJ : Tryd.prog.cellsOf 2 = 1 := by kernel_rfl
  obtain ⟨y0, y1, y2, y3, y4, m, f0, f1, f2, f3, f4⟩ := trod_struct5 Tryd.underlying64 h
  simp [hI, hJ] at f0 f1 f2 f3 f4
  obtain ⟨k, e0, -⟩ := DataW.trod_int Tryd.underlying3 f0
  obtain ⟨B, e1, -⟩ := DataW.trod_int Tryd.underlying2 f1
  obtain ⟨T, e2, -⟩ := DataW.trod_int Tryd.underlying2 f2
  obtain ⟨M, e3, -⟩ := DataW.trod_int Tryd.underlying2 f3
  obtain ⟨C, e4, -⟩ := DataW.trod_int Tryd.underlying2 f4
  try simp at e0 e1 e2 e3 e4
  exact ⟨k, B, T, M, C, e0, e1, e2, e3, e4⟩
theorem open_iv {H : Type} {enc : TypeId × Value → H} {w : World} {base n : Nat} {sp : Nat → Bool} {held : Bool} {a b : Value} {y : DataW H × List MemPlace} (h : DataW.trod enc Tryd.prog w base sp held n 55 [a, b] = some y) : ∃ x z : Int, a = .int .i64 x ∧ b = .int .i64 z ∧ Sp.I64 x ∧ Sp.I64 z := by
  have hJ : Tryd.prog.cellsOf 2 = 1 := by kernel_rfl
  obtain ⟨y0, y1, m, -, -, f0, f1⟩ := trod_struct2 Tryd.underlying55 h
  simp [hJ] at f0 f1
  obtain ⟨x, e0, -, w0⟩ := DataW.trod_int Tryd.underlying2 f0
  obtain ⟨z, e1, -, w1⟩ := DataW.trod_int Tryd.underlying2 f1
  try simp at e0 e1
  exact ⟨x, z, e0, e1, wf_i64 w0, wf_i64 w1⟩
set_option maxRecDepth 100000 in
/-- An argument of the law on warmer pipes. -/
theorem open_warm {H : Type} {enc : TypeId × Value → H} {w : World} {base : Nat} {sp : Nat → Bool} {held : Bool} {r : Reach} {b0 : Nat} {v : Value} {d : DataW H} {ps : List MemPlace}
    (hv : Value.okWide Tryd.prog w r b0 70 v) (h : DataW.Trod enc Tryd.prog w base sp held 70 v d ps) : ∃ k B T M C x y t b : Int, v = .agg #[.int .i64 k, .int .i64 B, .int .i64 T, .int .i64 M, .int .i64 C, .int .i64 x, .int .i64 y, .int .i64 t, .int .u16 b] ∧ Sp.I64 x ∧ Sp.I64 y ∧ 0 ≤ b ∧ b ≤ 65535 := by
  obtain ⟨⟨cs⟩, rfl, hsz⟩ := okWide_struct Tryd.underlying70 hv
  have hC : Tryd.prog.cellsOf 70 = 9 := by kernel_rfl
  have hB : Tryd.prog.cellsOf 64 = 5 := by kernel_rfl
  have hV : Tryd.prog.cellsOf 55 = 2 := by kernel_rfl
  have hJ : Tryd.prog.cellsOf 2 = 1 := by kernel_rfl
  have hU : Tryd.prog.cellsOf 68 = 1 := by kernel_rfl
  obtain ⟨a, b, c, d, e, f, g, i, j, rfl⟩ := len9 (by have := hsz.trans hC; simpa using this)
  obtain ⟨fuel, hf⟩ := h
  obtain ⟨y0, y1, y2, y3, m, -, -, f0, f1, f2, f3⟩ := Go.Joins.trod_struct4 Tryd.underlying70 hf
  simp [hB, hV, hJ, hU, Value.cells] at f0 f1 f2 f3
  obtain ⟨k, B, T, M, C, rfl, rfl, rfl, rfl, rfl⟩ := open_bd f0
  obtain ⟨x, y, rfl, rfl, h1, h2⟩ := open_iv f1
  obtain ⟨t, e2, -⟩ := DataW.trod_int Tryd.underlying2 f2
  obtain ⟨q, e3, -, w3⟩ := DataW.trod_int Tryd.underlying68 f3
  try simp at e2 e3
  subst e2 e3
  obtain ⟨w1, w2⟩ := wf_u16 w3
  exact ⟨k, B, T, M, C, x, y, t, q, rfl, h1, h2, w1, w2⟩
theorem kd_pair {H : Type} {enc : TypeId × Value → H} {w : World} {base n : Nat} {sp : Nat → Bool} {held : Bool} {cs : List Value} {y : DataW H × List MemPlace} {p q : Int} (h : DataW.trod enc Tryd.prog w base sp held n 175 cs = some y) (hy : y.1 = .agg [.lit (.int .i64 p), .lit (.int .i64 q)]) : cs = [.int .i64 p, .int .i64 q] := by
  have hJ : Tryd.prog.cellsOf 2 = 1 := by kernel_rfl
  have hK : Tryd.prog.cellsOf 175 = 2 := by kernel_rfl
  obtain ⟨y0, y1, m, e, hl, f0, f1⟩ := trod_struct2 Tryd.underlying175 h
  obtain ⟨a, b, rfl⟩ := len2 (hl.trans hK)
  simp [hJ] at f0 f1
  obtain ⟨x, e0, g0, -⟩ := DataW.trod_int Tryd.underlying2 f0
  obtain ⟨z, e1, g1, -⟩ := DataW.trod_int Tryd.underlying2 f1
  try simp at e0 e1
  rw [e, g0, g1] at hy
  simp at hy
  rw [e0, e1, hy.1, hy.2]
set_option maxRecDepth 100000 in
theorem kd_of_vr {W : World} (h : VR Tryd.prog W "quintadena/lengths.kinds" Rows.laid_quintadena_lengths_kinds) : Ln.KdL W := by
  obtain ⟨g', t', cs, fuel, p, hg', ht', hvar, hd⟩ := h
  have hg : Tryd.prog.globalNamed "quintadena/lengths.kinds" = some 1 := by kernel_rfl
  have hty : (Tryd.prog.globals[1]?).map (·.type) = some 176 := by kernel_rfl
  obtain rfl := Option.some.inj (hg.symm.trans hg')
  obtain rfl := Option.some.inj (hty.symm.trans ht')
  have hK : Tryd.prog.cellsOf 175 = 2 := by kernel_rfl
  have hA : Tryd.prog.cellsOf 176 = 8 := by kernel_rfl
  obtain ⟨xs, m, -, ex, hl, hn, hf⟩ := Go.DataW.trod_array Tryd.underlying176 hd
  match xs, hn with
  | [z0, z1, z2, z3], _ =>
    have e0 := congrArg Prod.fst ex
    simp [Rows.laid_quintadena_lengths_kinds] at e0
    have g0 := hf 0 (by omega)
    have g1 := hf 1 (by omega)
    have g2 := hf 2 (by omega)
    have g3 := hf 3 (by omega)
    simp only [List.getElem?_cons_zero, List.getElem?_cons_succ] at g0 g1 g2 g3
    have k0 := kd_pair g0 e0.1.symm
    have k1 := kd_pair g1 e0.2.1.symm
    have k2 := kd_pair g2 e0.2.2.1.symm
    have k3 := kd_pair g3 e0.2.2.2.symm
    rw [hK] at k0 k1 k2 k3
    have hcs : cs.toList = [.int .i64 0, .int .i64 0, .int .i64 500, .int .i64 30665, .int .i64 250, .int .i64 0, .int .i64 500, .int .i64 30665] := by
      have h8 : cs.toList.length = 8 := hl.trans hA
      generalize cs.toList = l at *
      match l, h8 with
      | [a, b, c, d, e, f, g, h], _ =>
        simp at k0 k1 k2 k3
        simp [k0, k1, k2, k3]
    have hc := fun i => World.var?_cell hg hvar i
    have hcell : ∀ (i : Nat) (p : Int), Ln.kdI[i]? = some p → W.cell? ⟨1, i, none⟩ = some (.int .i64 p) := fun i p hp => by
      rw [hc i, ← Array.getElem?_toList, hcs]
      match i, hp with
      | 0, hp => cases hp; rfl
      | 1, hp => cases hp; rfl
      | 2, hp => cases hp; rfl
      | 3, hp => cases hp; rfl
      | 4, hp => cases hp; rfl
      | 5, hp => cases hp; rfl
      | 6, hp => cases hp; rfl
      | 7, hp => cases hp; rfl
    exact ⟨hcell, World.block_lt_of_cell? W _ (hcell 0 0 rfl)⟩
/-- A world for the witness: the listed variable holds what its initialiser lays. -/
noncomputable def laidWorldK (os : Os) : World :=
  let w0 := World.holding Tryd.prog os ⟨#[], #[], []⟩
  { w0 with heap := layAt w0.heap 1 #[.int .i64 0, .int .i64 0, .int .i64 500, .int .i64 30665, .int .i64 250, .int .i64 0, .int .i64 500, .int .i64 30665] }
end Go.Proofs.YtmbcejldifobnaaDoor
