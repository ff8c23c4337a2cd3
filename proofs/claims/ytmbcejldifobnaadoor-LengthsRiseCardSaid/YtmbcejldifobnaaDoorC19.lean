import Derived.Test.YtmbcejldifobnaaDoorC18
namespace Go.Proofs.YtmbcejldifobnaaDoor.Ln
open Go.RowKit Tp Sp Pc
set_option maxRecDepth 100000 in
set_option maxHeartbeats 2000000 in
theorem lawRise_any (k B T M C x y t b : Int) (w : World) (hkd : KdL w) (hI : I64 x ∧ I64 y) (hb : 0 ≤ b) (hb2 : b ≤ 65535) : Calls Tryd.prog 8 #[.agg #[.int .i64 k, .int .i64 B, .int .i64 T, .int .i64 M, .int .i64 C, .int .i64 x, .int .i64 y, .int .i64 t, .int .u16 b]] w fun r w' => r = .returned (.bool true) ∧ Below w.heap.size w w' := by
  obtain ⟨la, lw, pa, pw, ly, py, lm, pm, hla, hlw, hpa, hpw, hly, hpy, hlm, hpm, R1, R2, R3, R4, R5, R6⟩ := rise_all k B T M C x y t b hb
  have HR1 := Lib.hid R1
  have HR2 := Lib.hid R2
  have HR3 := Lib.hid R3
  have HR4 := Lib.hid R4
  have HR5 := Lib.hid R5
  have HR6 := Lib.hid R6
  clear R1 R2 R3 R4 R5 R6
  refine calls_of_wp Tryd.func8 rfl ?_
  refine Boxw.out (ax_in ?_)
  have HB : Array.size ((#[.agg #[.int .i64 k, .int .i64 B, .int .i64 T, .int .i64 M, .int .i64 C, .int .i64 x, .int .i64 y, .int .i64 t, .int .u16 b]] : Array Value) ++ Array.replicate (Func.ntmps Tryd.f8 - Array.size (#[.agg #[.int .i64 k, .int .i64 B, .int .i64 T, .int .i64 M, .int .i64 C, .int .i64 x, .int .i64 y, .int .i64 t, .int .u16 b]] : Array Value)) undef) = 247 := by kernel_rfl
  have HL0 := Loc.start w
  refine aw_seq ?_
  refine aw_reg ?_
  refine ax_new 70 [.int .i64 k, .int .i64 B, .int .i64 T, .int .i64 M, .int .i64 C, .int .i64 x, .int .i64 y, .int .i64 t, .int .u16 b] HB HL0 (by kernel_rfl) (by kernel_rfl) ?_
  intro g1 w2 HL3
  clear HL0
  refine ax_val (v := .bool false) (.bool false) HB (by kernel_rfl) (by kernel_rfl) (rfl) ?_
  refine aw_nil ?_
  refine aw_n_then ?_
  refine aw_seq ?_
  refine aw_cut (fun eX bX uX => eX = .normal ∧ ∃ (cg9 : Nat) (cg6 : Nat), bX = ⟨#[.agg #[.int .i64 k, .int .i64 B, .int .i64 T, .int .i64 M, .int .i64 C, .int .i64 x, .int .i64 y, .int .i64 t, .int .u16 b], .pointer (some ⟨g1, 0, none⟩), .bool false, .pointer (some ⟨cg6, 0, none⟩), .pointer (some ⟨cg9, 0, none⟩), .int .i64 t, .int .u16 b, undef, undef, undef, undef, undef, undef, undef, undef, undef, undef, undef, .pointer (some ⟨g1, 0, none⟩), .agg #[.int .i64 k, .int .i64 B, .int .i64 T, .int .i64 M, .int .i64 C], .pointer (some ⟨g1, 5, none⟩), .agg #[.int .i64 x, .int .i64 y], .pointer (some ⟨g1, 7, none⟩), .int .i64 t, .pointer (some ⟨g1, 8, none⟩), .int .u16 b, undef, undef, undef, undef, undef, undef, undef, undef, undef, undef, undef, undef, undef, undef, undef, undef, undef, undef, undef, undef, undef, undef, undef, undef, undef, undef, undef, undef, undef, undef, undef, undef, undef, undef, undef, undef, undef, undef, undef, undef, undef, undef, undef, undef, undef, undef, undef, undef, undef, undef, undef, undef, undef, undef, undef, undef, undef, undef, undef, undef, undef, undef, undef, undef, undef, undef, undef, undef, undef, undef, undef, undef, undef, undef, undef, undef, undef, undef, undef, undef, undef, undef, undef, undef, undef, undef, undef, undef, undef, undef, undef, undef, undef, undef, undef, undef, undef, undef, undef, undef, undef, undef, undef, undef, undef, undef, undef, undef, undef, undef, undef, undef, undef, undef, undef, undef, undef, undef, undef, undef, undef, undef, undef, undef, undef, undef, undef, undef, undef, undef, undef, undef, undef, undef, undef, undef, undef, undef, undef, undef, undef, undef, undef, undef, undef, undef, undef, undef, undef, undef, undef, undef, undef, undef, undef, undef, undef, undef, undef, undef, undef, undef, undef, undef, undef, undef, undef, undef, undef, undef, undef, undef, undef, undef, undef, undef, undef, undef, undef, undef, undef, undef, undef, undef, undef, undef, undef, undef, undef, undef, undef, undef, undef, undef, undef, undef, undef, undef, undef, undef, undef, undef, undef, undef, undef, undef, undef, undef, undef, undef, undef, undef, undef, undef, undef, undef, undef, undef, undef, undef, undef], []⟩ ∧ Loc w [(cg9, 55, [.int .i64 x, .int .i64 y]), (cg6, 64, [.int .i64 k, .int .i64 B, .int .i64 T, .int .i64 M, .int .i64 C]), (g1, 70, [.int .i64 k, .int .i64 B, .int .i64 T, .int .i64 M, .int .i64 C, .int .i64 x, .int .i64 y, .int .i64 t, .int .u16 b])] uX) ?_ ?_
  · refine ad_start [(g1, 70, [.int .i64 k, .int .i64 B, .int .i64 T, .int .i64 M, .int .i64 C, .int .i64 x, .int .i64 y, .int .i64 t, .int .u16 b])] HL3 (by kernel_rfl) (List.Sublist.cons_cons _ List.Sublist.slnil) rfl ?_
    intro w5 HL4
    clear HL3
    refine ay_val (v := .pointer (some ⟨g1, 0, none⟩)) 0 (.pointer (some ⟨g1, 0, none⟩)) HB rfl (by kernel_rfl) (by kernel_rfl) (by kernel_rfl) (fun _ _ _ h => nomatch h.1) (by kernel_rfl) (fun _ _ => by kernel_rfl) (rfl) ?_
    refine ay_mid 1 64 (.tmp 18) 0 g1 0 70 [.int .i64 k, .int .i64 B, .int .i64 T, .int .i64 M, .int .i64 C, .int .i64 x, .int .i64 y, .int .i64 t, .int .u16 b] [.int .i64 k, .int .i64 B, .int .i64 T, .int .i64 M, .int .i64 C] _ HB rfl (by kernel_rfl) (by kernel_rfl) (by kernel_rfl) (fun _ _ _ h => nomatch h.1) (by kernel_rfl) rfl (by kernel_rfl) rfl rfl Tryd.underlying64 rfl (by kernel_rfl) ?_
    refine ay_val (v := .pointer (some ⟨g1, 5, none⟩)) 2 (.pointer (some ⟨g1, 5, none⟩)) HB rfl (by kernel_rfl) (by kernel_rfl) (by kernel_rfl) (fun _ _ _ h => nomatch h.1) (by kernel_rfl) (fun _ _ => by kernel_rfl) (rfl) ?_
    refine ay_mid 3 55 (.tmp 20) 0 g1 5 70 [.int .i64 k, .int .i64 B, .int .i64 T, .int .i64 M, .int .i64 C, .int .i64 x, .int .i64 y, .int .i64 t, .int .u16 b] [.int .i64 x, .int .i64 y] _ HB rfl (by kernel_rfl) (by kernel_rfl) (by kernel_rfl) (fun _ _ _ h => nomatch h.1) (by kernel_rfl) rfl (by kernel_rfl) rfl rfl Tryd.underlying55 rfl (by kernel_rfl) ?_
    refine ay_val (v := .pointer (some ⟨g1, 7, none⟩)) 4 (.pointer (some ⟨g1, 7, none⟩)) HB rfl (by kernel_rfl) (by kernel_rfl) (by kernel_rfl) (fun _ _ _ h => nomatch h.1) (by kernel_rfl) (fun _ _ => by kernel_rfl) (rfl) ?_
    refine ay_load 5 2 (.tmp 22) 0 g1 7 70 [.int .i64 k, .int .i64 B, .int .i64 T, .int .i64 M, .int .i64 C, .int .i64 x, .int .i64 y, .int .i64 t, .int .u16 b] (.int .i64 t) _ HB rfl (by kernel_rfl) (by kernel_rfl) (by kernel_rfl) (fun _ _ _ h => nomatch h.1) (by kernel_rfl) rfl (by kernel_rfl) rfl rfl Tryd.underlying2 rfl ?_
    refine ay_val (v := .pointer (some ⟨g1, 8, none⟩)) 6 (.pointer (some ⟨g1, 8, none⟩)) HB rfl (by kernel_rfl) (by kernel_rfl) (by kernel_rfl) (fun _ _ _ h => nomatch h.1) (by kernel_rfl) (fun _ _ => by kernel_rfl) (rfl) ?_
    refine ay_load 7 68 (.tmp 24) 0 g1 8 70 [.int .i64 k, .int .i64 B, .int .i64 T, .int .i64 M, .int .i64 C, .int .i64 x, .int .i64 y, .int .i64 t, .int .u16 b] (.int .u16 b) _ HB rfl (by kernel_rfl) (by kernel_rfl) (by kernel_rfl) (fun _ _ _ h => nomatch h.1) (by kernel_rfl) rfl (by kernel_rfl) rfl rfl Tryd.underlying68 rfl ?_
    refine ad_two 8 9 HL4 (by kernel_rfl) ?_ ?_
    · skip
      refine bs_new 64 [.int .i64 0, .int .i64 0, .int .i64 0, .int .i64 0, .int .i64 0] HB rfl (by kernel_rfl) (fun _ => by kernel_rfl) (List.Sublist.cons_cons _ List.Sublist.slnil) ?_
      intro g30 w31 HL32
      clear HL4
      refine ad_one 9 HL32 (by kernel_rfl) (bs_new 55 [.int .i64 0, .int .i64 0] HB rfl (by kernel_rfl) (fun _ => by kernel_rfl) (List.Sublist.cons _ (List.Sublist.cons_cons _ List.Sublist.slnil)) ?_)
      intro g33 w34 HL35
      clear HL32
      refine ad_one 10 HL35 (by kernel_rfl) (bs_store 64 (.tmp 3) (.tmp 19) 1 g30 0 64 [.int .i64 0, .int .i64 0, .int .i64 0, .int .i64 0, .int .i64 0] [.int .i64 k, .int .i64 B, .int .i64 T, .int .i64 M, .int .i64 C] [.int .i64 k, .int .i64 B, .int .i64 T, .int .i64 M, .int .i64 C] [(g33, 55, [.int .i64 0, .int .i64 0]), (g30, 64, [.int .i64 k, .int .i64 B, .int .i64 T, .int .i64 M, .int .i64 C]), (g1, 70, [.int .i64 k, .int .i64 B, .int .i64 T, .int .i64 M, .int .i64 C, .int .i64 x, .int .i64 y, .int .i64 t, .int .u16 b])] HB rfl (by kernel_rfl) rfl (by kernel_rfl) (by kernel_rfl) rfl (by kernel_rfl) (by kernel_rfl) (Nat.le_of_ble_eq_true rfl) rfl rfl (List.Sublist.cons _ (List.Sublist.cons _ (List.Sublist.cons_cons _ List.Sublist.slnil))) ?_)
      intro w36 HL37
      clear HL35
      refine ad_one 11 HL37 (by kernel_rfl) (bs_store 55 (.tmp 4) (.tmp 21) 0 g33 0 55 [.int .i64 0, .int .i64 0] [.int .i64 x, .int .i64 y] [.int .i64 x, .int .i64 y] [(g33, 55, [.int .i64 x, .int .i64 y]), (g30, 64, [.int .i64 k, .int .i64 B, .int .i64 T, .int .i64 M, .int .i64 C]), (g1, 70, [.int .i64 k, .int .i64 B, .int .i64 T, .int .i64 M, .int .i64 C, .int .i64 x, .int .i64 y, .int .i64 t, .int .u16 b])] HB rfl (by kernel_rfl) rfl (by kernel_rfl) (by kernel_rfl) rfl (by kernel_rfl) (by kernel_rfl) (Nat.le_of_ble_eq_true rfl) rfl rfl (List.Sublist.cons _ (List.Sublist.cons _ (List.Sublist.cons_cons _ List.Sublist.slnil))) ?_)
      intro w38 HL39
      clear HL37
      refine ay_val (v := .int .i64 t) 12 (.int .i64 t) HB rfl (by kernel_rfl) (by kernel_rfl) (by kernel_rfl) (fun _ _ _ h => nomatch h.1) (by kernel_rfl) (fun _ _ => by kernel_rfl) (rfl) ?_
      refine ay_val (v := .int .u16 b) 13 (.int .u16 b) HB rfl (by kernel_rfl) (by kernel_rfl) (by kernel_rfl) (fun _ _ _ h => nomatch h.1) (by kernel_rfl) (fun _ _ => by kernel_rfl) (rfl) ?_
      refine ad_done HL39 (by kernel_rfl) (fun w41 HL40 => ?_)
      clear HL39
      exact ⟨⟨rfl, g33, g30, (by kernel_rfl), HL40⟩⟩
    · skip
      refine bs_new 55 [.int .i64 0, .int .i64 0] HB rfl (by kernel_rfl) (fun _ => by kernel_rfl) (List.Sublist.cons_cons _ List.Sublist.slnil) ?_
      intro g42 w43 HL44
      clear HL4
      refine ad_one 8 HL44 (by kernel_rfl) (bs_new 64 [.int .i64 0, .int .i64 0, .int .i64 0, .int .i64 0, .int .i64 0] HB rfl (by kernel_rfl) (fun _ => by kernel_rfl) (List.Sublist.cons _ (List.Sublist.cons_cons _ List.Sublist.slnil)) ?_)
      intro g45 w46 HL47
      clear HL44
      refine ad_one 10 HL47 (by kernel_rfl) (bs_store 64 (.tmp 3) (.tmp 19) 0 g45 0 64 [.int .i64 0, .int .i64 0, .int .i64 0, .int .i64 0, .int .i64 0] [.int .i64 k, .int .i64 B, .int .i64 T, .int .i64 M, .int .i64 C] [.int .i64 k, .int .i64 B, .int .i64 T, .int .i64 M, .int .i64 C] [(g45, 64, [.int .i64 k, .int .i64 B, .int .i64 T, .int .i64 M, .int .i64 C]), (g42, 55, [.int .i64 0, .int .i64 0]), (g1, 70, [.int .i64 k, .int .i64 B, .int .i64 T, .int .i64 M, .int .i64 C, .int .i64 x, .int .i64 y, .int .i64 t, .int .u16 b])] HB rfl (by kernel_rfl) rfl (by kernel_rfl) (by kernel_rfl) rfl (by kernel_rfl) (by kernel_rfl) (Nat.le_of_ble_eq_true rfl) rfl rfl (List.Sublist.cons _ (List.Sublist.cons _ (List.Sublist.cons_cons _ List.Sublist.slnil))) ?_)
      intro w48 HL49
      clear HL47
      refine ad_one 11 HL49 (by kernel_rfl) (bs_store 55 (.tmp 4) (.tmp 21) 1 g42 0 55 [.int .i64 0, .int .i64 0] [.int .i64 x, .int .i64 y] [.int .i64 x, .int .i64 y] [(g45, 64, [.int .i64 k, .int .i64 B, .int .i64 T, .int .i64 M, .int .i64 C]), (g42, 55, [.int .i64 x, .int .i64 y]), (g1, 70, [.int .i64 k, .int .i64 B, .int .i64 T, .int .i64 M, .int .i64 C, .int .i64 x, .int .i64 y, .int .i64 t, .int .u16 b])] HB rfl (by kernel_rfl) rfl (by kernel_rfl) (by kernel_rfl) rfl (by kernel_rfl) (by kernel_rfl) (Nat.le_of_ble_eq_true rfl) rfl rfl (List.Sublist.cons _ (List.Sublist.cons _ (List.Sublist.cons_cons _ List.Sublist.slnil))) ?_)
      intro w50 HL51
      clear HL49
      refine ay_val (v := .int .i64 t) 12 (.int .i64 t) HB rfl (by kernel_rfl) (by kernel_rfl) (by kernel_rfl) (fun _ _ _ h => nomatch h.1) (by kernel_rfl) (fun _ _ => by kernel_rfl) (rfl) ?_
      refine ay_val (v := .int .u16 b) 13 (.int .u16 b) HB rfl (by kernel_rfl) (by kernel_rfl) (by kernel_rfl) (fun _ _ _ h => nomatch h.1) (by kernel_rfl) (fun _ _ => by kernel_rfl) (rfl) ?_
      refine ad_done HL51 (by kernel_rfl) (fun w53 HL52 => ?_)
      clear HL51
      exact ⟨⟨rfl, g42, g45, (by kernel_rfl), HL52.perm ((List.Perm.swap _ _ _).trans (List.Perm.refl _))⟩⟩
  · rintro _ _ w54 ⟨rfl, cg9, cg6, rfl, HL55⟩
    clear HL3
    clear HB
    have HB : Array.size (#[.agg #[.int .i64 k, .int .i64 B, .int .i64 T, .int .i64 M, .int .i64 C, .int .i64 x, .int .i64 y, .int .i64 t, .int .u16 b], .pointer (some ⟨g1, 0, none⟩), .bool false, .pointer (some ⟨cg6, 0, none⟩), .pointer (some ⟨cg9, 0, none⟩), .int .i64 t, .int .u16 b, undef, undef, undef, undef, undef, undef, undef, undef, undef, undef, undef, .pointer (some ⟨g1, 0, none⟩), .agg #[.int .i64 k, .int .i64 B, .int .i64 T, .int .i64 M, .int .i64 C], .pointer (some ⟨g1, 5, none⟩), .agg #[.int .i64 x, .int .i64 y], .pointer (some ⟨g1, 7, none⟩), .int .i64 t, .pointer (some ⟨g1, 8, none⟩), .int .u16 b, undef, undef, undef, undef, undef, undef, undef, undef, undef, undef, undef, undef, undef, undef, undef, undef, undef, undef, undef, undef, undef, undef, undef, undef, undef, undef, undef, undef, undef, undef, undef, undef, undef, undef, undef, undef, undef, undef, undef, undef, undef, undef, undef, undef, undef, undef, undef, undef, undef, undef, undef, undef, undef, undef, undef, undef, undef, undef, undef, undef, undef, undef, undef, undef, undef, undef, undef, undef, undef, undef, undef, undef, undef, undef, undef, undef, undef, undef, undef, undef, undef, undef, undef, undef, undef, undef, undef, undef, undef, undef, undef, undef, undef, undef, undef, undef, undef, undef, undef, undef, undef, undef, undef, undef, undef, undef, undef, undef, undef, undef, undef, undef, undef, undef, undef, undef, undef, undef, undef, undef, undef, undef, undef, undef, undef, undef, undef, undef, undef, undef, undef, undef, undef, undef, undef, undef, undef, undef, undef, undef, undef, undef, undef, undef, undef, undef, undef, undef, undef, undef, undef, undef, undef, undef, undef, undef, undef, undef, undef, undef, undef, undef, undef, undef, undef, undef, undef, undef, undef, undef, undef, undef, undef, undef, undef, undef, undef, undef, undef, undef, undef, undef, undef, undef, undef, undef, undef, undef, undef, undef, undef, undef, undef, undef, undef, undef, undef, undef, undef, undef, undef, undef, undef, undef, undef, undef, undef, undef, undef, undef, undef, undef, undef, undef, undef, undef, undef, undef, undef, undef, undef] : Array Value) = 247 := by kernel_rfl
    refine Boxw.out (ax_re ?_)
    refine aw_n_then ?_
    refine aw_seq ?_
    refine aw_seq ?_
    refine aw_reg ?_
    refine ax_val (v := .int .i64 t) (.int .i64 t) HB (by kernel_rfl) (by kernel_rfl) (rfl) ?_
    refine ax_fork (decide (t < (-20000))) HB (by kernel_rfl) (by kernel_rfl) ?_ ?_
    · intro f56
      have k56 := of_decide_eq_true f56
      refine ax_val (v := .bool true) (.bool true) HB (by kernel_rfl) (by kernel_rfl) (rfl) ?_
      refine ax_pass  HB (by kernel_rfl) ?_
      refine ax_pass  HB (by kernel_rfl) ?_
      refine ax_val (v := .bool true) (.bool true) HB (by kernel_rfl) (by kernel_rfl) (rfl) ?_
      refine ax_val (v := .bool true) (.bool true) HB (by kernel_rfl) (by kernel_rfl) (rfl) ?_
      refine ax_pass  HB (by kernel_rfl) ?_
      refine ax_pass  HB (by kernel_rfl) ?_
      refine ax_pass  HB (by kernel_rfl) ?_
      refine ax_val (v := .bool true) (.bool true) HB (by kernel_rfl) (by kernel_rfl) (rfl) ?_
      refine ax_val (v := .bool true) (.bool true) HB (by kernel_rfl) (by kernel_rfl) (rfl) ?_
      refine ax_pass  HB (by kernel_rfl) ?_
      refine ax_pass  HB (by kernel_rfl) ?_
      refine ax_pass  HB (by kernel_rfl) ?_
      refine ax_val (v := .bool true) (.bool true) HB (by kernel_rfl) (by kernel_rfl) (rfl) ?_
      refine ax_val (v := .bool true) (.bool true) HB (by kernel_rfl) (by kernel_rfl) (rfl) ?_
      refine ax_pass  HB (by kernel_rfl) ?_
      refine ax_pass  HB (by kernel_rfl) ?_
      refine ax_pass  HB (by kernel_rfl) ?_
      refine ax_pass  HB (by kernel_rfl) ?_
      refine ax_pass  HB (by kernel_rfl) ?_
      refine ax_val (v := .bool true) (.bool true) HB (by kernel_rfl) (by kernel_rfl) (rfl) ?_
      refine ax_val (v := .bool true) (.bool true) HB (by kernel_rfl) (by kernel_rfl) (rfl) ?_
      refine ax_pass  HB (by kernel_rfl) ?_
      refine ax_pass  HB (by kernel_rfl) ?_
      refine ax_pass  HB (by kernel_rfl) ?_
      refine ax_val (v := .bool true) (.bool true) HB (by kernel_rfl) (by kernel_rfl) (rfl) ?_
      refine aw_nil ?_
      refine aw_n_then ?_
      refine ax_yes HB (by kernel_rfl) ?_
      refine aw_seq ?_
      refine aw_reg ?_
      refine ax_call 36 #[] (.bool true) HB HL55 (by kernel_rfl) (by kernel_rfl) (shown_any w54 (hkd.loc HL55)) ?_
      intro w58 HL59
      clear HL55
      refine ax_val (v := .bool true) (.bool true) HB (by kernel_rfl) (by kernel_rfl) (rfl) ?_
      refine aw_nil ?_
      refine aw_n_then ?_
      refine aw_ret ?_
      refine aw_r_then ?_
      refine aw_end (.bool true) (by kernel_rfl) (by kernel_rfl) ?_
      exact ⟨rfl, HL59.bel⟩
    · intro f57
      have k57 := of_decide_eq_false f57
      refine ax_val (v := .bool false) (.bool false) HB (by kernel_rfl) (by kernel_rfl) (rfl) ?_
      refine ax_val (v := .int .i64 t) (.int .i64 t) HB (by kernel_rfl) (by kernel_rfl) (rfl) ?_
      refine ax_fork (decide (50000 < t)) HB (by kernel_rfl) (by kernel_rfl) ?_ ?_
      · intro f60
        have k60 := of_decide_eq_true f60
        refine ax_val (v := .bool true) (.bool true) HB (by kernel_rfl) (by kernel_rfl) (rfl) ?_
        refine ax_val (v := .bool true) (.bool true) HB (by kernel_rfl) (by kernel_rfl) (rfl) ?_
        refine ax_pass  HB (by kernel_rfl) ?_
        refine ax_pass  HB (by kernel_rfl) ?_
        refine ax_pass  HB (by kernel_rfl) ?_
        refine ax_val (v := .bool true) (.bool true) HB (by kernel_rfl) (by kernel_rfl) (rfl) ?_
        refine ax_val (v := .bool true) (.bool true) HB (by kernel_rfl) (by kernel_rfl) (rfl) ?_
        refine ax_pass  HB (by kernel_rfl) ?_
        refine ax_pass  HB (by kernel_rfl) ?_
        refine ax_pass  HB (by kernel_rfl) ?_
        refine ax_val (v := .bool true) (.bool true) HB (by kernel_rfl) (by kernel_rfl) (rfl) ?_
        refine ax_val (v := .bool true) (.bool true) HB (by kernel_rfl) (by kernel_rfl) (rfl) ?_
        refine ax_pass  HB (by kernel_rfl) ?_
        refine ax_pass  HB (by kernel_rfl) ?_
        refine ax_pass  HB (by kernel_rfl) ?_
        refine ax_pass  HB (by kernel_rfl) ?_
        refine ax_pass  HB (by kernel_rfl) ?_
        refine ax_val (v := .bool true) (.bool true) HB (by kernel_rfl) (by kernel_rfl) (rfl) ?_
        refine ax_val (v := .bool true) (.bool true) HB (by kernel_rfl) (by kernel_rfl) (rfl) ?_
        refine ax_pass  HB (by kernel_rfl) ?_
        refine ax_pass  HB (by kernel_rfl) ?_
        refine ax_pass  HB (by kernel_rfl) ?_
        refine ax_val (v := .bool true) (.bool true) HB (by kernel_rfl) (by kernel_rfl) (rfl) ?_
        refine aw_nil ?_
        refine aw_n_then ?_
        refine ax_yes HB (by kernel_rfl) ?_
        refine aw_seq ?_
        refine aw_reg ?_
        refine ax_call 36 #[] (.bool true) HB HL55 (by kernel_rfl) (by kernel_rfl) (shown_any w54 (hkd.loc HL55)) ?_
        intro w62 HL63
        clear HL55
        refine ax_val (v := .bool true) (.bool true) HB (by kernel_rfl) (by kernel_rfl) (rfl) ?_
        refine aw_nil ?_
        refine aw_n_then ?_
        refine aw_ret ?_
        refine aw_r_then ?_
        refine aw_end (.bool true) (by kernel_rfl) (by kernel_rfl) ?_
        exact ⟨rfl, HL63.bel⟩
      · intro f61
        have k61 := of_decide_eq_false f61
        refine ax_val (v := .bool false) (.bool false) HB (by kernel_rfl) (by kernel_rfl) (rfl) ?_
        refine ax_val (v := .bool false) (.bool false) HB (by kernel_rfl) (by kernel_rfl) (rfl) ?_
        refine ax_val (v := .pointer (some ⟨cg9, 0, none⟩)) (.pointer (some ⟨cg9, 0, none⟩)) HB (by kernel_rfl) (by kernel_rfl) (rfl) ?_
        refine ax_load 2 (.tmp 33) 0 cg9 0 55 [.int .i64 x, .int .i64 y] (.int .i64 x) _ HB HL55 (by kernel_rfl) rfl (by kernel_rfl) rfl rfl Tryd.underlying2 rfl ?_
        refine ax_fork (decide (x < 1)) HB (by kernel_rfl) (by kernel_rfl) ?_ ?_
        · intro f64
          have k64 := of_decide_eq_true f64
          refine ax_val (v := .bool true) (.bool true) HB (by kernel_rfl) (by kernel_rfl) (rfl) ?_
          refine ax_val (v := .bool true) (.bool true) HB (by kernel_rfl) (by kernel_rfl) (rfl) ?_
          refine ax_pass  HB (by kernel_rfl) ?_
          refine ax_pass  HB (by kernel_rfl) ?_
          refine ax_pass  HB (by kernel_rfl) ?_
          refine ax_val (v := .bool true) (.bool true) HB (by kernel_rfl) (by kernel_rfl) (rfl) ?_
          refine ax_val (v := .bool true) (.bool true) HB (by kernel_rfl) (by kernel_rfl) (rfl) ?_
          refine ax_pass  HB (by kernel_rfl) ?_
          refine ax_pass  HB (by kernel_rfl) ?_
          refine ax_pass  HB (by kernel_rfl) ?_
          refine ax_pass  HB (by kernel_rfl) ?_
          refine ax_pass  HB (by kernel_rfl) ?_
          refine ax_val (v := .bool true) (.bool true) HB (by kernel_rfl) (by kernel_rfl) (rfl) ?_
          refine ax_val (v := .bool true) (.bool true) HB (by kernel_rfl) (by kernel_rfl) (rfl) ?_
          refine ax_pass  HB (by kernel_rfl) ?_
          refine ax_pass  HB (by kernel_rfl) ?_
          refine ax_pass  HB (by kernel_rfl) ?_
          refine ax_val (v := .bool true) (.bool true) HB (by kernel_rfl) (by kernel_rfl) (rfl) ?_
          refine aw_nil ?_
          refine aw_n_then ?_
          refine ax_yes HB (by kernel_rfl) ?_
          refine aw_seq ?_
          refine aw_reg ?_
          refine ax_call 36 #[] (.bool true) HB HL55 (by kernel_rfl) (by kernel_rfl) (shown_any w54 (hkd.loc HL55)) ?_
          intro w66 HL67
          clear HL55
          refine ax_val (v := .bool true) (.bool true) HB (by kernel_rfl) (by kernel_rfl) (rfl) ?_
          refine aw_nil ?_
          refine aw_n_then ?_
          refine aw_ret ?_
          refine aw_r_then ?_
          refine aw_end (.bool true) (by kernel_rfl) (by kernel_rfl) ?_
          exact ⟨rfl, HL67.bel⟩
        · intro f65
          have k65 := of_decide_eq_false f65
          refine ax_val (v := .bool false) (.bool false) HB (by kernel_rfl) (by kernel_rfl) (rfl) ?_
          refine ax_val (v := .bool false) (.bool false) HB (by kernel_rfl) (by kernel_rfl) (rfl) ?_
          refine ax_val (v := .pointer (some ⟨cg9, 1, none⟩)) (.pointer (some ⟨cg9, 1, none⟩)) HB (by kernel_rfl) (by kernel_rfl) (rfl) ?_
          refine ax_load 2 (.tmp 38) 0 cg9 1 55 [.int .i64 x, .int .i64 y] (.int .i64 y) _ HB HL55 (by kernel_rfl) rfl (by kernel_rfl) rfl rfl Tryd.underlying2 rfl ?_
          refine ax_fork (decide (20000000 < y)) HB (by kernel_rfl) (by kernel_rfl) ?_ ?_
          · intro f68
            have k68 := of_decide_eq_true f68
            refine ax_val (v := .bool true) (.bool true) HB (by kernel_rfl) (by kernel_rfl) (rfl) ?_
            refine ax_val (v := .bool true) (.bool true) HB (by kernel_rfl) (by kernel_rfl) (rfl) ?_
            refine ax_pass  HB (by kernel_rfl) ?_
            refine ax_pass  HB (by kernel_rfl) ?_
            refine ax_pass  HB (by kernel_rfl) ?_
            refine ax_pass  HB (by kernel_rfl) ?_
            refine ax_pass  HB (by kernel_rfl) ?_
            refine ax_val (v := .bool true) (.bool true) HB (by kernel_rfl) (by kernel_rfl) (rfl) ?_
            refine ax_val (v := .bool true) (.bool true) HB (by kernel_rfl) (by kernel_rfl) (rfl) ?_
            refine ax_pass  HB (by kernel_rfl) ?_
            refine ax_pass  HB (by kernel_rfl) ?_
            refine ax_pass  HB (by kernel_rfl) ?_
            refine ax_val (v := .bool true) (.bool true) HB (by kernel_rfl) (by kernel_rfl) (rfl) ?_
            refine aw_nil ?_
            refine aw_n_then ?_
            refine ax_yes HB (by kernel_rfl) ?_
            refine aw_seq ?_
            refine aw_reg ?_
            refine ax_call 36 #[] (.bool true) HB HL55 (by kernel_rfl) (by kernel_rfl) (shown_any w54 (hkd.loc HL55)) ?_
            intro w70 HL71
            clear HL55
            refine ax_val (v := .bool true) (.bool true) HB (by kernel_rfl) (by kernel_rfl) (rfl) ?_
            refine aw_nil ?_
            refine aw_n_then ?_
            refine aw_ret ?_
            refine aw_r_then ?_
            refine aw_end (.bool true) (by kernel_rfl) (by kernel_rfl) ?_
            exact ⟨rfl, HL71.bel⟩
          · intro f69
            have k69 := of_decide_eq_false f69
            refine ax_val (v := .bool false) (.bool false) HB (by kernel_rfl) (by kernel_rfl) (rfl) ?_
            refine ax_val (v := .bool false) (.bool false) HB (by kernel_rfl) (by kernel_rfl) (rfl) ?_
            refine ax_val (v := .pointer (some ⟨cg9, 0, none⟩)) (.pointer (some ⟨cg9, 0, none⟩)) HB (by kernel_rfl) (by kernel_rfl) (rfl) ?_
            refine ax_load 2 (.tmp 43) 0 cg9 0 55 [.int .i64 x, .int .i64 y] (.int .i64 x) _ HB HL55 (by kernel_rfl) rfl (by kernel_rfl) rfl rfl Tryd.underlying2 rfl ?_
            refine ax_val (v := .pointer (some ⟨cg9, 1, none⟩)) (.pointer (some ⟨cg9, 1, none⟩)) HB (by kernel_rfl) (by kernel_rfl) (rfl) ?_
            refine ax_load 2 (.tmp 45) 0 cg9 1 55 [.int .i64 x, .int .i64 y] (.int .i64 y) _ HB HL55 (by kernel_rfl) rfl (by kernel_rfl) rfl rfl Tryd.underlying2 rfl ?_
            refine ax_fork (decide (y < x)) HB (by kernel_rfl) (by kernel_rfl) ?_ ?_
            · intro f72
              have k72 := of_decide_eq_true f72
              refine ax_val (v := .bool true) (.bool true) HB (by kernel_rfl) (by kernel_rfl) (rfl) ?_
              refine ax_val (v := .bool true) (.bool true) HB (by kernel_rfl) (by kernel_rfl) (rfl) ?_
              refine ax_pass  HB (by kernel_rfl) ?_
              refine ax_pass  HB (by kernel_rfl) ?_
              refine ax_pass  HB (by kernel_rfl) ?_
              refine ax_val (v := .bool true) (.bool true) HB (by kernel_rfl) (by kernel_rfl) (rfl) ?_
              refine aw_nil ?_
              refine aw_n_then ?_
              refine ax_yes HB (by kernel_rfl) ?_
              refine aw_seq ?_
              refine aw_reg ?_
              refine ax_call 36 #[] (.bool true) HB HL55 (by kernel_rfl) (by kernel_rfl) (shown_any w54 (hkd.loc HL55)) ?_
              intro w74 HL75
              clear HL55
              refine ax_val (v := .bool true) (.bool true) HB (by kernel_rfl) (by kernel_rfl) (rfl) ?_
              refine aw_nil ?_
              refine aw_n_then ?_
              refine aw_ret ?_
              refine aw_r_then ?_
              refine aw_end (.bool true) (by kernel_rfl) (by kernel_rfl) ?_
              exact ⟨rfl, HL75.bel⟩
            · intro f73
              have k73 := of_decide_eq_false f73
              refine ax_val (v := .bool false) (.bool false) HB (by kernel_rfl) (by kernel_rfl) (rfl) ?_
              refine ax_val (v := .bool false) (.bool false) HB (by kernel_rfl) (by kernel_rfl) (rfl) ?_
              refine ax_mid 64 (.tmp 3) 1 cg6 0 64 [.int .i64 k, .int .i64 B, .int .i64 T, .int .i64 M, .int .i64 C] [.int .i64 k, .int .i64 B, .int .i64 T, .int .i64 M, .int .i64 C] _ HB HL55 (by kernel_rfl) rfl (by kernel_rfl) rfl rfl Tryd.underlying64 rfl (by kernel_rfl) ?_
              refine ax_call 37 #[.agg #[.int .i64 k, .int .i64 B, .int .i64 T, .int .i64 M, .int .i64 C]] (.int .i64 (if bdB k B T M C = true then (0 : Int) else 2)) HB HL55 (by kernel_rfl) (by kernel_rfl) (rCheck_any k B T M C w54) ?_
              intro w76 HL77
              clear HL55
              refine ax_fork ((if bdB k B T M C = true then (0 : Int) else 2) != 0) HB (by kernel_rfl) (by kernel_rfl) ?_ ?_
              · intro f78
                have k78 := aw_neq_t f78
                refine ax_val (v := .bool true) (.bool true) HB (by kernel_rfl) (by kernel_rfl) (rfl) ?_
                refine aw_nil ?_
                refine aw_n_then ?_
                refine ax_yes HB (by kernel_rfl) ?_
                refine aw_seq ?_
                refine aw_reg ?_
                refine ax_call 36 #[] (.bool true) HB HL77 (by kernel_rfl) (by kernel_rfl) (shown_any w76 (hkd.loc HL77)) ?_
                intro w80 HL81
                clear HL77
                refine ax_val (v := .bool true) (.bool true) HB (by kernel_rfl) (by kernel_rfl) (rfl) ?_
                refine aw_nil ?_
                refine aw_n_then ?_
                refine aw_ret ?_
                refine aw_r_then ?_
                refine aw_end (.bool true) (by kernel_rfl) (by kernel_rfl) ?_
                exact ⟨rfl, HL81.bel⟩
              · intro f79
                have k79 := aw_neq_f f79
                refine ax_val (v := .bool false) (.bool false) HB (by kernel_rfl) (by kernel_rfl) (rfl) ?_
                refine aw_nil ?_
                refine aw_n_then ?_
                refine ax_no HB (by kernel_rfl) ?_
                refine aw_skip0 ?_
                refine aw_n_then ?_
                refine aw_seq ?_
                refine aw_reg ?_
                refine ax_val (v := .int .i64 t) (.int .i64 t) HB (by kernel_rfl) (by kernel_rfl) (rfl) ?_
                refine ax_val (v := .int .u16 b) (.int .u16 b) HB (by kernel_rfl) (by kernel_rfl) (rfl) ?_
                refine ax_val (v := .int .i64 (IntKind.i64.wrap b)) (.int .i64 b) HB (by kernel_rfl) (by kernel_rfl) (congrArg (Value.int .i64) (IntWalk.i64_in _ (by omega))) ?_
                refine ax_val (v := .int .i64 (IntKind.i64.wrap (t + b))) (.int .i64 (t + b)) HB (by kernel_rfl) (by kernel_rfl) (congrArg (Value.int .i64) (IntWalk.i64_in _ (by omega))) ?_
                refine ax_val (v := .int .i64 (min (t + b) 50000)) (.int .i64 (min (t + b) 50000)) HB (by kernel_rfl) (run_min w76 _ (.tmp 58) (.const (.int .i64 50000)) (t + b) 50000 rfl (by kernel_rfl) (by kernel_rfl)) (congrArg (Value.int .i64) (rfl)) ?_
                refine ax_val (v := .int .i64 (min (t + b) 50000)) (.int .i64 (min (t + b) 50000)) HB (by kernel_rfl) (by kernel_rfl) (rfl) ?_
                refine aw_nil ?_
                refine aw_n_then ?_
                refine aw_seq ?_
                refine aw_reg ?_
                refine ax_mid 64 (.tmp 3) 1 cg6 0 64 [.int .i64 k, .int .i64 B, .int .i64 T, .int .i64 M, .int .i64 C] [.int .i64 k, .int .i64 B, .int .i64 T, .int .i64 M, .int .i64 C] _ HB HL77 (by kernel_rfl) rfl (by kernel_rfl) rfl rfl Tryd.underlying64 rfl (by kernel_rfl) ?_
                refine ax_mid 55 (.tmp 4) 0 cg9 0 55 [.int .i64 x, .int .i64 y] [.int .i64 x, .int .i64 y] _ HB HL77 (by kernel_rfl) rfl (by kernel_rfl) rfl rfl Tryd.underlying55 rfl (by kernel_rfl) ?_
                refine ax_val (v := .int .i64 t) (.int .i64 t) HB (by kernel_rfl) (by kernel_rfl) (rfl) ?_
                refine ax_call 33 #[.agg #[.int .i64 k, .int .i64 B, .int .i64 T, .int .i64 M, .int .i64 C], .agg #[.int .i64 x, .int .i64 y], .int .i64 t] (.tuple #[.agg #[.int .i64 la.1.1, .int .i64 la.1.2], .int .i64 la.2]) HB HL77 (by kernel_rfl) (by kernel_rfl) ((by have h0 := Length_any k B T M C x y t w76 (hkd.loc HL77) hI; rw [hla] at h0; exact h0)) ?_
                intro w82 HL83
                clear HL77
                refine ax_val (v := .tuple #[.agg #[.int .i64 la.1.1, .int .i64 la.1.2], .int .i64 la.2]) (.tuple #[.agg #[.int .i64 la.1.1, .int .i64 la.1.2], .int .i64 la.2]) HB (by kernel_rfl) (by kernel_rfl) (rfl) ?_
                refine ax_val (v := .agg #[.int .i64 la.1.1, .int .i64 la.1.2]) (.agg #[.int .i64 la.1.1, .int .i64 la.1.2]) HB (by kernel_rfl) (by kernel_rfl) (rfl) ?_
                refine ax_val (v := .int .i64 la.2) (.int .i64 la.2) HB (by kernel_rfl) (by kernel_rfl) (rfl) ?_
                refine ax_new 55 [.int .i64 0, .int .i64 0] HB HL83 (by kernel_rfl) (by kernel_rfl) ?_
                intro g84 w85 HL86
                clear HL83
                refine ax_store 55 (.tmp 8) (.tmp 65) 0 g84 0 55 [.int .i64 0, .int .i64 0] [.int .i64 la.1.1, .int .i64 la.1.2] [.int .i64 la.1.1, .int .i64 la.1.2] [(g84, 55, [.int .i64 la.1.1, .int .i64 la.1.2]), (cg9, 55, [.int .i64 x, .int .i64 y]), (cg6, 64, [.int .i64 k, .int .i64 B, .int .i64 T, .int .i64 M, .int .i64 C]), (g1, 70, [.int .i64 k, .int .i64 B, .int .i64 T, .int .i64 M, .int .i64 C, .int .i64 x, .int .i64 y, .int .i64 t, .int .u16 b])] HB HL86 (by kernel_rfl) rfl (by kernel_rfl) (by kernel_rfl) rfl (by kernel_rfl) (by kernel_rfl) (Nat.le_of_ble_eq_true rfl) rfl rfl ?_
                intro w87 HL88
                clear HL86
                refine ax_val (v := .int .i64 la.2) (.int .i64 la.2) HB (by kernel_rfl) (by kernel_rfl) (rfl) ?_
                refine aw_nil ?_
                refine aw_n_then ?_
                refine aw_seq ?_
                refine aw_reg ?_
                refine ax_mid 64 (.tmp 3) 2 cg6 0 64 [.int .i64 k, .int .i64 B, .int .i64 T, .int .i64 M, .int .i64 C] [.int .i64 k, .int .i64 B, .int .i64 T, .int .i64 M, .int .i64 C] _ HB HL88 (by kernel_rfl) rfl (by kernel_rfl) rfl rfl Tryd.underlying64 rfl (by kernel_rfl) ?_
                refine ax_mid 55 (.tmp 4) 1 cg9 0 55 [.int .i64 x, .int .i64 y] [.int .i64 x, .int .i64 y] _ HB HL88 (by kernel_rfl) rfl (by kernel_rfl) rfl rfl Tryd.underlying55 rfl (by kernel_rfl) ?_
                refine ax_val (v := .int .i64 (min (t + b) 50000)) (.int .i64 (min (t + b) 50000)) HB (by kernel_rfl) (by kernel_rfl) (rfl) ?_
                refine ax_call 33 #[.agg #[.int .i64 k, .int .i64 B, .int .i64 T, .int .i64 M, .int .i64 C], .agg #[.int .i64 x, .int .i64 y], .int .i64 (min (t + b) 50000)] (.tuple #[.agg #[.int .i64 lw.1.1, .int .i64 lw.1.2], .int .i64 lw.2]) HB HL88 (by kernel_rfl) (by kernel_rfl) ((by have h0 := Length_any k B T M C x y (min (t + b) 50000) w87 (hkd.loc HL88) hI; rw [hlw] at h0; exact h0)) ?_
                intro w89 HL90
                clear HL88
                refine ax_val (v := .tuple #[.agg #[.int .i64 lw.1.1, .int .i64 lw.1.2], .int .i64 lw.2]) (.tuple #[.agg #[.int .i64 lw.1.1, .int .i64 lw.1.2], .int .i64 lw.2]) HB (by kernel_rfl) (by kernel_rfl) (rfl) ?_
                refine ax_val (v := .agg #[.int .i64 lw.1.1, .int .i64 lw.1.2]) (.agg #[.int .i64 lw.1.1, .int .i64 lw.1.2]) HB (by kernel_rfl) (by kernel_rfl) (rfl) ?_
                refine ax_val (v := .int .i64 lw.2) (.int .i64 lw.2) HB (by kernel_rfl) (by kernel_rfl) (rfl) ?_
                refine ax_new 55 [.int .i64 0, .int .i64 0] HB HL90 (by kernel_rfl) (by kernel_rfl) ?_
                intro g91 w92 HL93
                clear HL90
                refine ax_store 55 (.tmp 10) (.tmp 72) 0 g91 0 55 [.int .i64 0, .int .i64 0] [.int .i64 lw.1.1, .int .i64 lw.1.2] [.int .i64 lw.1.1, .int .i64 lw.1.2] [(g91, 55, [.int .i64 lw.1.1, .int .i64 lw.1.2]), (g84, 55, [.int .i64 la.1.1, .int .i64 la.1.2]), (cg9, 55, [.int .i64 x, .int .i64 y]), (cg6, 64, [.int .i64 k, .int .i64 B, .int .i64 T, .int .i64 M, .int .i64 C]), (g1, 70, [.int .i64 k, .int .i64 B, .int .i64 T, .int .i64 M, .int .i64 C, .int .i64 x, .int .i64 y, .int .i64 t, .int .u16 b])] HB HL93 (by kernel_rfl) rfl (by kernel_rfl) (by kernel_rfl) rfl (by kernel_rfl) (by kernel_rfl) (Nat.le_of_ble_eq_true rfl) rfl rfl ?_
                intro w94 HL95
                clear HL93
                refine ax_val (v := .int .i64 lw.2) (.int .i64 lw.2) HB (by kernel_rfl) (by kernel_rfl) (rfl) ?_
                refine aw_nil ?_
                refine aw_n_then ?_
                refine aw_seq ?_
                refine aw_cut (fun eX bX uX => eX = .normal ∧ ∃ (j2_96 : Value) (j74_97 : Value) (j75_98 : Value) (j76_99 : Value) (j77_100 : Value) (j78_101 : Value) (j79_102 : Value) (j80_103 : Value) (j81_104 : Value) (j82_105 : Value) (j83_106 : Value) (j84_107 : Value) (j85_108 : Value) (j86_109 : Value) (j87_110 : Value) (j88_111 : Value) (j89_112 : Value) (j90_113 : Value) (j91_114 : Value) (j92_115 : Value) (j93_116 : Value), bX = ⟨#[.agg #[.int .i64 k, .int .i64 B, .int .i64 T, .int .i64 M, .int .i64 C, .int .i64 x, .int .i64 y, .int .i64 t, .int .u16 b], .pointer (some ⟨g1, 0, none⟩), j2_96, .pointer (some ⟨cg6, 0, none⟩), .pointer (some ⟨cg9, 0, none⟩), .int .i64 t, .int .u16 b, .int .i64 (min (t + b) 50000), .pointer (some ⟨g84, 0, none⟩), .int .i64 la.2, .pointer (some ⟨g91, 0, none⟩), .int .i64 lw.2, undef, undef, undef, undef, undef, undef, .pointer (some ⟨g1, 0, none⟩), .agg #[.int .i64 k, .int .i64 B, .int .i64 T, .int .i64 M, .int .i64 C], .pointer (some ⟨g1, 5, none⟩), .agg #[.int .i64 x, .int .i64 y], .pointer (some ⟨g1, 7, none⟩), .int .i64 t, .pointer (some ⟨g1, 8, none⟩), .int .u16 b, .int .i64 t, .bool false, .bool false, .int .i64 t, .bool false, .bool false, .bool false, .pointer (some ⟨cg9, 0, none⟩), .int .i64 x, .bool false, .bool false, .bool false, .pointer (some ⟨cg9, 1, none⟩), .int .i64 y, .bool false, .bool false, .bool false, .pointer (some ⟨cg9, 0, none⟩), .int .i64 x, .pointer (some ⟨cg9, 1, none⟩), .int .i64 y, .bool false, .bool false, .bool false, .agg #[.int .i64 k, .int .i64 B, .int .i64 T, .int .i64 M, .int .i64 C], .int .i64 (if bdB k B T M C = true then (0 : Int) else 2), .bool false, .bool false, undef, .int .i64 t, .int .u16 b, .int .i64 b, .int .i64 (t + b), .int .i64 (min (t + b) 50000), .tuple #[.agg #[.int .i64 la.1.1, .int .i64 la.1.2], .int .i64 la.2], .agg #[.int .i64 k, .int .i64 B, .int .i64 T, .int .i64 M, .int .i64 C], .agg #[.int .i64 x, .int .i64 y], .int .i64 t, .tuple #[.agg #[.int .i64 la.1.1, .int .i64 la.1.2], .int .i64 la.2], .agg #[.int .i64 la.1.1, .int .i64 la.1.2], .int .i64 la.2, .tuple #[.agg #[.int .i64 lw.1.1, .int .i64 lw.1.2], .int .i64 lw.2], .agg #[.int .i64 k, .int .i64 B, .int .i64 T, .int .i64 M, .int .i64 C], .agg #[.int .i64 x, .int .i64 y], .int .i64 (min (t + b) 50000), .tuple #[.agg #[.int .i64 lw.1.1, .int .i64 lw.1.2], .int .i64 lw.2], .agg #[.int .i64 lw.1.1, .int .i64 lw.1.2], .int .i64 lw.2, j74_97, j75_98, j76_99, j77_100, j78_101, j79_102, j80_103, j81_104, j82_105, j83_106, j84_107, j85_108, j86_109, j87_110, j88_111, j89_112, j90_113, j91_114, j92_115, j93_116, undef, undef, undef, undef, undef, undef, undef, undef, undef, undef, undef, undef, undef, undef, undef, undef, undef, undef, undef, undef, undef, undef, undef, undef, undef, undef, undef, undef, undef, undef, undef, undef, undef, undef, undef, undef, undef, undef, undef, undef, undef, undef, undef, undef, undef, undef, undef, undef, undef, undef, undef, undef, undef, undef, undef, undef, undef, undef, undef, undef, undef, undef, undef, undef, undef, undef, undef, undef, undef, undef, undef, undef, undef, undef, undef, undef, undef, undef, undef, undef, undef, undef, undef, undef, undef, undef, undef, undef, undef, undef, undef, undef, undef, undef, undef, undef, undef, undef, undef, undef, undef, undef, undef, undef, undef, undef, undef, undef, undef, undef, undef, undef, undef, undef, undef, undef, undef, undef, undef, undef, undef, undef, undef, undef, undef, undef, undef, undef, undef, undef, undef, undef, undef, undef, undef, undef, undef, undef, undef, undef, undef, undef, undef, undef, undef, undef, undef, undef, undef, undef, undef, undef, undef], []⟩ ∧ Loc w [(g91, 55, [.int .i64 lw.1.1, .int .i64 lw.1.2]), (g84, 55, [.int .i64 la.1.1, .int .i64 la.1.2]), (cg9, 55, [.int .i64 x, .int .i64 y]), (cg6, 64, [.int .i64 k, .int .i64 B, .int .i64 T, .int .i64 M, .int .i64 C]), (g1, 70, [.int .i64 k, .int .i64 B, .int .i64 T, .int .i64 M, .int .i64 C, .int .i64 x, .int .i64 y, .int .i64 t, .int .u16 b])] uX) ?_ ?_
                · skip
                  refine aw_seq ?_
                  refine aw_reg ?_
                  refine ax_val (v := .int .i64 la.2) (.int .i64 la.2) HB (by kernel_rfl) (by kernel_rfl) (rfl) ?_
                  refine ax_fork (la.2 == 0) HB (by kernel_rfl) (by kernel_rfl) ?_ ?_
                  · intro f117
                    have k117 := eq_of_beq f117
                    refine ax_val (v := .bool true) (.bool true) HB (by kernel_rfl) (by kernel_rfl) (rfl) ?_
                    refine ax_val (v := .int .i64 lw.2) (.int .i64 lw.2) HB (by kernel_rfl) (by kernel_rfl) (rfl) ?_
                    refine ax_fork (lw.2 == 0) HB (by kernel_rfl) (by kernel_rfl) ?_ ?_
                    · intro f119
                      have k119 := eq_of_beq f119
                      refine ax_val (v := .bool true) (.bool true) HB (by kernel_rfl) (by kernel_rfl) (rfl) ?_
                      refine ax_val (v := .bool true) (.bool true) HB (by kernel_rfl) (by kernel_rfl) (rfl) ?_
                      refine ax_val (v := .pointer (some ⟨g91, 0, none⟩)) (.pointer (some ⟨g91, 0, none⟩)) HB (by kernel_rfl) (by kernel_rfl) (rfl) ?_
                      refine ax_load 2 (.tmp 81) 0 g91 0 55 [.int .i64 lw.1.1, .int .i64 lw.1.2] (.int .i64 lw.1.1) _ HB HL95 (by kernel_rfl) rfl (by kernel_rfl) rfl rfl Tryd.underlying2 rfl ?_
                      refine ax_val (v := .pointer (some ⟨g84, 0, none⟩)) (.pointer (some ⟨g84, 0, none⟩)) HB (by kernel_rfl) (by kernel_rfl) (rfl) ?_
                      refine ax_load 2 (.tmp 83) 1 g84 0 55 [.int .i64 la.1.1, .int .i64 la.1.2] (.int .i64 la.1.1) _ HB HL95 (by kernel_rfl) rfl (by kernel_rfl) rfl rfl Tryd.underlying2 rfl ?_
                      refine ax_fork (decide (lw.1.1 < la.1.1)) HB (by kernel_rfl) (by kernel_rfl) ?_ ?_
                      · intro f121
                        have k121 := of_decide_eq_true f121
                        refine ax_val (v := .bool true) (.bool true) HB (by kernel_rfl) (by kernel_rfl) (rfl) ?_
                        refine ax_pass  HB (by kernel_rfl) ?_
                        refine ax_pass  HB (by kernel_rfl) ?_
                        refine ax_pass  HB (by kernel_rfl) ?_
                        refine ax_pass  HB (by kernel_rfl) ?_
                        refine ax_pass  HB (by kernel_rfl) ?_
                        refine ax_val (v := .bool true) (.bool true) HB (by kernel_rfl) (by kernel_rfl) (rfl) ?_
                        refine ax_val (v := .bool true) (.bool true) HB (by kernel_rfl) (by kernel_rfl) (rfl) ?_
                        refine aw_nil ?_
                        refine aw_n_then ?_
                        refine ax_yes HB (by kernel_rfl) ?_
                        refine aw_seq ?_
                        refine aw_reg ?_
                        refine ax_val (v := .bool false) (.bool false) HB (by kernel_rfl) (by kernel_rfl) (rfl) ?_
                        refine aw_nil ?_
                        refine aw_n_then ?_
                        refine aw_ret ?_
                        exfalso
                        have R1 := HR1.out
                        omega
                      · intro f122
                        have k122 := of_decide_eq_false f122
                        refine ax_val (v := .bool false) (.bool false) HB (by kernel_rfl) (by kernel_rfl) (rfl) ?_
                        refine ax_val (v := .pointer (some ⟨g91, 1, none⟩)) (.pointer (some ⟨g91, 1, none⟩)) HB (by kernel_rfl) (by kernel_rfl) (rfl) ?_
                        refine ax_load 2 (.tmp 87) 0 g91 1 55 [.int .i64 lw.1.1, .int .i64 lw.1.2] (.int .i64 lw.1.2) _ HB HL95 (by kernel_rfl) rfl (by kernel_rfl) rfl rfl Tryd.underlying2 rfl ?_
                        refine ax_val (v := .pointer (some ⟨g84, 1, none⟩)) (.pointer (some ⟨g84, 1, none⟩)) HB (by kernel_rfl) (by kernel_rfl) (rfl) ?_
                        refine ax_load 2 (.tmp 89) 1 g84 1 55 [.int .i64 la.1.1, .int .i64 la.1.2] (.int .i64 la.1.2) _ HB HL95 (by kernel_rfl) rfl (by kernel_rfl) rfl rfl Tryd.underlying2 rfl ?_
                        refine ax_fork (decide (lw.1.2 < la.1.2)) HB (by kernel_rfl) (by kernel_rfl) ?_ ?_
                        · intro f123
                          have k123 := of_decide_eq_true f123
                          refine ax_val (v := .bool true) (.bool true) HB (by kernel_rfl) (by kernel_rfl) (rfl) ?_
                          refine ax_val (v := .bool true) (.bool true) HB (by kernel_rfl) (by kernel_rfl) (rfl) ?_
                          refine aw_nil ?_
                          refine aw_n_then ?_
                          refine ax_yes HB (by kernel_rfl) ?_
                          refine aw_seq ?_
                          refine aw_reg ?_
                          refine ax_val (v := .bool false) (.bool false) HB (by kernel_rfl) (by kernel_rfl) (rfl) ?_
                          refine aw_nil ?_
                          refine aw_n_then ?_
                          refine aw_ret ?_
                          exfalso
                          have R1 := HR1.out
                          omega
                        · intro f124
                          have k124 := of_decide_eq_false f124
                          refine ax_val (v := .bool false) (.bool false) HB (by kernel_rfl) (by kernel_rfl) (rfl) ?_
                          refine ax_val (v := .bool false) (.bool false) HB (by kernel_rfl) (by kernel_rfl) (rfl) ?_
                          refine aw_nil ?_
                          refine aw_n_then ?_
                          refine ax_no HB (by kernel_rfl) ?_
                          refine aw_skip0 ?_
                          exact ⟨⟨rfl, (.bool false), (.int .i64 la.2), (.bool true), (.bool true), (.int .i64 lw.2), (.bool true), (.bool true), (.bool true), (.pointer (some ⟨g91, 0, none⟩)), (.int .i64 lw.1.1), (.pointer (some ⟨g84, 0, none⟩)), (.int .i64 la.1.1), (.bool false), (.bool false), (.pointer (some ⟨g91, 1, none⟩)), (.int .i64 lw.1.2), (.pointer (some ⟨g84, 1, none⟩)), (.int .i64 la.1.2), (.bool false), (.bool false), (.bool false), (by kernel_rfl), HL95⟩⟩
                    · intro f120
                      have k120 := ne_of_beq_false f120
                      refine ax_val (v := .bool false) (.bool false) HB (by kernel_rfl) (by kernel_rfl) (rfl) ?_
                      refine ax_val (v := .bool false) (.bool false) HB (by kernel_rfl) (by kernel_rfl) (rfl) ?_
                      refine ax_pass  HB (by kernel_rfl) ?_
                      refine ax_pass  HB (by kernel_rfl) ?_
                      refine ax_pass  HB (by kernel_rfl) ?_
                      refine ax_pass  HB (by kernel_rfl) ?_
                      refine ax_pass  HB (by kernel_rfl) ?_
                      refine ax_pass  HB (by kernel_rfl) ?_
                      refine ax_pass  HB (by kernel_rfl) ?_
                      refine ax_pass  HB (by kernel_rfl) ?_
                      refine ax_pass  HB (by kernel_rfl) ?_
                      refine ax_pass  HB (by kernel_rfl) ?_
                      refine ax_pass  HB (by kernel_rfl) ?_
                      refine ax_pass  HB (by kernel_rfl) ?_
                      refine ax_val (v := .bool false) (.bool false) HB (by kernel_rfl) (by kernel_rfl) (rfl) ?_
                      refine aw_nil ?_
                      refine aw_n_then ?_
                      refine ax_no HB (by kernel_rfl) ?_
                      refine aw_skip0 ?_
                      exact ⟨⟨rfl, (.bool false), (.int .i64 la.2), (.bool true), (.bool true), (.int .i64 lw.2), (.bool false), (.bool false), (.bool false), (undef), (undef), (undef), (undef), (undef), (undef), (undef), (undef), (undef), (undef), (undef), (undef), (.bool false), (by kernel_rfl), HL95⟩⟩
                  · intro f118
                    have k118 := ne_of_beq_false f118
                    refine ax_val (v := .bool false) (.bool false) HB (by kernel_rfl) (by kernel_rfl) (rfl) ?_
                    refine ax_pass  HB (by kernel_rfl) ?_
                    refine ax_pass  HB (by kernel_rfl) ?_
                    refine ax_val (v := .bool false) (.bool false) HB (by kernel_rfl) (by kernel_rfl) (rfl) ?_
                    refine ax_val (v := .bool false) (.bool false) HB (by kernel_rfl) (by kernel_rfl) (rfl) ?_
                    refine ax_pass  HB (by kernel_rfl) ?_
                    refine ax_pass  HB (by kernel_rfl) ?_
                    refine ax_pass  HB (by kernel_rfl) ?_
                    refine ax_pass  HB (by kernel_rfl) ?_
                    refine ax_pass  HB (by kernel_rfl) ?_
                    refine ax_pass  HB (by kernel_rfl) ?_
                    refine ax_pass  HB (by kernel_rfl) ?_
                    refine ax_pass  HB (by kernel_rfl) ?_
                    refine ax_pass  HB (by kernel_rfl) ?_
                    refine ax_pass  HB (by kernel_rfl) ?_
                    refine ax_pass  HB (by kernel_rfl) ?_
                    refine ax_pass  HB (by kernel_rfl) ?_
                    refine ax_val (v := .bool false) (.bool false) HB (by kernel_rfl) (by kernel_rfl) (rfl) ?_
                    refine aw_nil ?_
                    refine aw_n_then ?_
                    refine ax_no HB (by kernel_rfl) ?_
                    refine aw_skip0 ?_
                    exact ⟨⟨rfl, (.bool false), (.int .i64 la.2), (.bool false), (.bool false), (undef), (undef), (.bool false), (.bool false), (undef), (undef), (undef), (undef), (undef), (undef), (undef), (undef), (undef), (undef), (undef), (undef), (.bool false), (by kernel_rfl), HL95⟩⟩
                · rintro _ _ w125 ⟨rfl, j2_96, j74_97, j75_98, j76_99, j77_100, j78_101, j79_102, j80_103, j81_104, j82_105, j83_106, j84_107, j85_108, j86_109, j87_110, j88_111, j89_112, j90_113, j91_114, j92_115, j93_116, rfl, HL126⟩
                  clear HL95
                  clear HB
                  have HB : Array.size (#[.agg #[.int .i64 k, .int .i64 B, .int .i64 T, .int .i64 M, .int .i64 C, .int .i64 x, .int .i64 y, .int .i64 t, .int .u16 b], .pointer (some ⟨g1, 0, none⟩), j2_96, .pointer (some ⟨cg6, 0, none⟩), .pointer (some ⟨cg9, 0, none⟩), .int .i64 t, .int .u16 b, .int .i64 (min (t + b) 50000), .pointer (some ⟨g84, 0, none⟩), .int .i64 la.2, .pointer (some ⟨g91, 0, none⟩), .int .i64 lw.2, undef, undef, undef, undef, undef, undef, .pointer (some ⟨g1, 0, none⟩), .agg #[.int .i64 k, .int .i64 B, .int .i64 T, .int .i64 M, .int .i64 C], .pointer (some ⟨g1, 5, none⟩), .agg #[.int .i64 x, .int .i64 y], .pointer (some ⟨g1, 7, none⟩), .int .i64 t, .pointer (some ⟨g1, 8, none⟩), .int .u16 b, .int .i64 t, .bool false, .bool false, .int .i64 t, .bool false, .bool false, .bool false, .pointer (some ⟨cg9, 0, none⟩), .int .i64 x, .bool false, .bool false, .bool false, .pointer (some ⟨cg9, 1, none⟩), .int .i64 y, .bool false, .bool false, .bool false, .pointer (some ⟨cg9, 0, none⟩), .int .i64 x, .pointer (some ⟨cg9, 1, none⟩), .int .i64 y, .bool false, .bool false, .bool false, .agg #[.int .i64 k, .int .i64 B, .int .i64 T, .int .i64 M, .int .i64 C], .int .i64 (if bdB k B T M C = true then (0 : Int) else 2), .bool false, .bool false, undef, .int .i64 t, .int .u16 b, .int .i64 b, .int .i64 (t + b), .int .i64 (min (t + b) 50000), .tuple #[.agg #[.int .i64 la.1.1, .int .i64 la.1.2], .int .i64 la.2], .agg #[.int .i64 k, .int .i64 B, .int .i64 T, .int .i64 M, .int .i64 C], .agg #[.int .i64 x, .int .i64 y], .int .i64 t, .tuple #[.agg #[.int .i64 la.1.1, .int .i64 la.1.2], .int .i64 la.2], .agg #[.int .i64 la.1.1, .int .i64 la.1.2], .int .i64 la.2, .tuple #[.agg #[.int .i64 lw.1.1, .int .i64 lw.1.2], .int .i64 lw.2], .agg #[.int .i64 k, .int .i64 B, .int .i64 T, .int .i64 M, .int .i64 C], .agg #[.int .i64 x, .int .i64 y], .int .i64 (min (t + b) 50000), .tuple #[.agg #[.int .i64 lw.1.1, .int .i64 lw.1.2], .int .i64 lw.2], .agg #[.int .i64 lw.1.1, .int .i64 lw.1.2], .int .i64 lw.2, j74_97, j75_98, j76_99, j77_100, j78_101, j79_102, j80_103, j81_104, j82_105, j83_106, j84_107, j85_108, j86_109, j87_110, j88_111, j89_112, j90_113, j91_114, j92_115, j93_116, undef, undef, undef, undef, undef, undef, undef, undef, undef, undef, undef, undef, undef, undef, undef, undef, undef, undef, undef, undef, undef, undef, undef, undef, undef, undef, undef, undef, undef, undef, undef, undef, undef, undef, undef, undef, undef, undef, undef, undef, undef, undef, undef, undef, undef, undef, undef, undef, undef, undef, undef, undef, undef, undef, undef, undef, undef, undef, undef, undef, undef, undef, undef, undef, undef, undef, undef, undef, undef, undef, undef, undef, undef, undef, undef, undef, undef, undef, undef, undef, undef, undef, undef, undef, undef, undef, undef, undef, undef, undef, undef, undef, undef, undef, undef, undef, undef, undef, undef, undef, undef, undef, undef, undef, undef, undef, undef, undef, undef, undef, undef, undef, undef, undef, undef, undef, undef, undef, undef, undef, undef, undef, undef, undef, undef, undef, undef, undef, undef, undef, undef, undef, undef, undef, undef, undef, undef, undef, undef, undef, undef, undef, undef, undef, undef, undef, undef, undef, undef, undef, undef, undef, undef] : Array Value) = 247 := by kernel_rfl
                  refine Boxw.out (ax_re ?_)
                  refine aw_n_then ?_
                  refine aw_seq ?_
                  refine aw_reg ?_
                  refine ax_mid 64 (.tmp 3) 3 cg6 0 64 [.int .i64 k, .int .i64 B, .int .i64 T, .int .i64 M, .int .i64 C] [.int .i64 k, .int .i64 B, .int .i64 T, .int .i64 M, .int .i64 C] _ HB HL126 (by kernel_rfl) rfl (by kernel_rfl) rfl rfl Tryd.underlying64 rfl (by kernel_rfl) ?_
                  refine ax_mid 55 (.tmp 4) 2 cg9 0 55 [.int .i64 x, .int .i64 y] [.int .i64 x, .int .i64 y] _ HB HL126 (by kernel_rfl) rfl (by kernel_rfl) rfl rfl Tryd.underlying55 rfl (by kernel_rfl) ?_
                  refine ax_val (v := .int .i64 t) (.int .i64 t) HB (by kernel_rfl) (by kernel_rfl) (rfl) ?_
                  refine ax_call 34 #[.agg #[.int .i64 k, .int .i64 B, .int .i64 T, .int .i64 M, .int .i64 C], .agg #[.int .i64 x, .int .i64 y], .int .i64 t] (.tuple #[.agg #[.int .i64 pa.1.1, .int .i64 pa.1.2], .int .i64 pa.2]) HB HL126 (by kernel_rfl) (by kernel_rfl) ((by have h0 := Pitch_any k B T M C x y t w125 (hkd.loc HL126) hI; rw [hpa] at h0; exact h0)) ?_
                  intro w127 HL128
                  clear HL126
                  refine ax_val (v := .tuple #[.agg #[.int .i64 pa.1.1, .int .i64 pa.1.2], .int .i64 pa.2]) (.tuple #[.agg #[.int .i64 pa.1.1, .int .i64 pa.1.2], .int .i64 pa.2]) HB (by kernel_rfl) (by kernel_rfl) (rfl) ?_
                  refine ax_val (v := .agg #[.int .i64 pa.1.1, .int .i64 pa.1.2]) (.agg #[.int .i64 pa.1.1, .int .i64 pa.1.2]) HB (by kernel_rfl) (by kernel_rfl) (rfl) ?_
                  refine ax_val (v := .int .i64 pa.2) (.int .i64 pa.2) HB (by kernel_rfl) (by kernel_rfl) (rfl) ?_
                  refine ax_new 55 [.int .i64 0, .int .i64 0] HB HL128 (by kernel_rfl) (by kernel_rfl) ?_
                  intro g129 w130 HL131
                  clear HL128
                  refine ax_store 55 (.tmp 12) (.tmp 99) 0 g129 0 55 [.int .i64 0, .int .i64 0] [.int .i64 pa.1.1, .int .i64 pa.1.2] [.int .i64 pa.1.1, .int .i64 pa.1.2] [(g129, 55, [.int .i64 pa.1.1, .int .i64 pa.1.2]), (g91, 55, [.int .i64 lw.1.1, .int .i64 lw.1.2]), (g84, 55, [.int .i64 la.1.1, .int .i64 la.1.2]), (cg9, 55, [.int .i64 x, .int .i64 y]), (cg6, 64, [.int .i64 k, .int .i64 B, .int .i64 T, .int .i64 M, .int .i64 C]), (g1, 70, [.int .i64 k, .int .i64 B, .int .i64 T, .int .i64 M, .int .i64 C, .int .i64 x, .int .i64 y, .int .i64 t, .int .u16 b])] HB HL131 (by kernel_rfl) rfl (by kernel_rfl) (by kernel_rfl) rfl (by kernel_rfl) (by kernel_rfl) (Nat.le_of_ble_eq_true rfl) rfl rfl ?_
                  intro w132 HL133
                  clear HL131
                  refine ax_val (v := .int .i64 pa.2) (.int .i64 pa.2) HB (by kernel_rfl) (by kernel_rfl) (rfl) ?_
                  refine aw_nil ?_
                  refine aw_n_then ?_
                  refine aw_seq ?_
                  refine aw_reg ?_
                  refine ax_mid 64 (.tmp 3) 4 cg6 0 64 [.int .i64 k, .int .i64 B, .int .i64 T, .int .i64 M, .int .i64 C] [.int .i64 k, .int .i64 B, .int .i64 T, .int .i64 M, .int .i64 C] _ HB HL133 (by kernel_rfl) rfl (by kernel_rfl) rfl rfl Tryd.underlying64 rfl (by kernel_rfl) ?_
                  refine ax_mid 55 (.tmp 4) 3 cg9 0 55 [.int .i64 x, .int .i64 y] [.int .i64 x, .int .i64 y] _ HB HL133 (by kernel_rfl) rfl (by kernel_rfl) rfl rfl Tryd.underlying55 rfl (by kernel_rfl) ?_
                  refine ax_val (v := .int .i64 (min (t + b) 50000)) (.int .i64 (min (t + b) 50000)) HB (by kernel_rfl) (by kernel_rfl) (rfl) ?_
                  refine ax_call 34 #[.agg #[.int .i64 k, .int .i64 B, .int .i64 T, .int .i64 M, .int .i64 C], .agg #[.int .i64 x, .int .i64 y], .int .i64 (min (t + b) 50000)] (.tuple #[.agg #[.int .i64 pw.1.1, .int .i64 pw.1.2], .int .i64 pw.2]) HB HL133 (by kernel_rfl) (by kernel_rfl) ((by have h0 := Pitch_any k B T M C x y (min (t + b) 50000) w132 (hkd.loc HL133) hI; rw [hpw] at h0; exact h0)) ?_
                  intro w134 HL135
                  clear HL133
                  refine ax_val (v := .tuple #[.agg #[.int .i64 pw.1.1, .int .i64 pw.1.2], .int .i64 pw.2]) (.tuple #[.agg #[.int .i64 pw.1.1, .int .i64 pw.1.2], .int .i64 pw.2]) HB (by kernel_rfl) (by kernel_rfl) (rfl) ?_
                  refine ax_val (v := .agg #[.int .i64 pw.1.1, .int .i64 pw.1.2]) (.agg #[.int .i64 pw.1.1, .int .i64 pw.1.2]) HB (by kernel_rfl) (by kernel_rfl) (rfl) ?_
                  refine ax_val (v := .int .i64 pw.2) (.int .i64 pw.2) HB (by kernel_rfl) (by kernel_rfl) (rfl) ?_
                  refine ax_new 55 [.int .i64 0, .int .i64 0] HB HL135 (by kernel_rfl) (by kernel_rfl) ?_
                  intro g136 w137 HL138
                  clear HL135
                  refine ax_store 55 (.tmp 14) (.tmp 106) 0 g136 0 55 [.int .i64 0, .int .i64 0] [.int .i64 pw.1.1, .int .i64 pw.1.2] [.int .i64 pw.1.1, .int .i64 pw.1.2] [(g136, 55, [.int .i64 pw.1.1, .int .i64 pw.1.2]), (g129, 55, [.int .i64 pa.1.1, .int .i64 pa.1.2]), (g91, 55, [.int .i64 lw.1.1, .int .i64 lw.1.2]), (g84, 55, [.int .i64 la.1.1, .int .i64 la.1.2]), (cg9, 55, [.int .i64 x, .int .i64 y]), (cg6, 64, [.int .i64 k, .int .i64 B, .int .i64 T, .int .i64 M, .int .i64 C]), (g1, 70, [.int .i64 k, .int .i64 B, .int .i64 T, .int .i64 M, .int .i64 C, .int .i64 x, .int .i64 y, .int .i64 t, .int .u16 b])] HB HL138 (by kernel_rfl) rfl (by kernel_rfl) (by kernel_rfl) rfl (by kernel_rfl) (by kernel_rfl) (Nat.le_of_ble_eq_true rfl) rfl rfl ?_
                  intro w139 HL140
                  clear HL138
                  refine ax_val (v := .int .i64 pw.2) (.int .i64 pw.2) HB (by kernel_rfl) (by kernel_rfl) (rfl) ?_
                  refine aw_nil ?_
                  refine aw_n_then ?_
                  refine aw_seq ?_
                  refine aw_cut (fun eX bX uX => eX = .normal ∧ ∃ (j2_141 : Value) (j108_142 : Value) (j109_143 : Value) (j110_144 : Value) (j111_145 : Value) (j112_146 : Value) (j113_147 : Value) (j114_148 : Value) (j115_149 : Value) (j116_150 : Value) (j117_151 : Value) (j118_152 : Value) (j119_153 : Value) (j120_154 : Value) (j121_155 : Value) (j122_156 : Value) (j123_157 : Value) (j124_158 : Value) (j125_159 : Value) (j126_160 : Value) (j127_161 : Value), bX = ⟨#[.agg #[.int .i64 k, .int .i64 B, .int .i64 T, .int .i64 M, .int .i64 C, .int .i64 x, .int .i64 y, .int .i64 t, .int .u16 b], .pointer (some ⟨g1, 0, none⟩), j2_141, .pointer (some ⟨cg6, 0, none⟩), .pointer (some ⟨cg9, 0, none⟩), .int .i64 t, .int .u16 b, .int .i64 (min (t + b) 50000), .pointer (some ⟨g84, 0, none⟩), .int .i64 la.2, .pointer (some ⟨g91, 0, none⟩), .int .i64 lw.2, .pointer (some ⟨g129, 0, none⟩), .int .i64 pa.2, .pointer (some ⟨g136, 0, none⟩), .int .i64 pw.2, undef, undef, .pointer (some ⟨g1, 0, none⟩), .agg #[.int .i64 k, .int .i64 B, .int .i64 T, .int .i64 M, .int .i64 C], .pointer (some ⟨g1, 5, none⟩), .agg #[.int .i64 x, .int .i64 y], .pointer (some ⟨g1, 7, none⟩), .int .i64 t, .pointer (some ⟨g1, 8, none⟩), .int .u16 b, .int .i64 t, .bool false, .bool false, .int .i64 t, .bool false, .bool false, .bool false, .pointer (some ⟨cg9, 0, none⟩), .int .i64 x, .bool false, .bool false, .bool false, .pointer (some ⟨cg9, 1, none⟩), .int .i64 y, .bool false, .bool false, .bool false, .pointer (some ⟨cg9, 0, none⟩), .int .i64 x, .pointer (some ⟨cg9, 1, none⟩), .int .i64 y, .bool false, .bool false, .bool false, .agg #[.int .i64 k, .int .i64 B, .int .i64 T, .int .i64 M, .int .i64 C], .int .i64 (if bdB k B T M C = true then (0 : Int) else 2), .bool false, .bool false, undef, .int .i64 t, .int .u16 b, .int .i64 b, .int .i64 (t + b), .int .i64 (min (t + b) 50000), .tuple #[.agg #[.int .i64 la.1.1, .int .i64 la.1.2], .int .i64 la.2], .agg #[.int .i64 k, .int .i64 B, .int .i64 T, .int .i64 M, .int .i64 C], .agg #[.int .i64 x, .int .i64 y], .int .i64 t, .tuple #[.agg #[.int .i64 la.1.1, .int .i64 la.1.2], .int .i64 la.2], .agg #[.int .i64 la.1.1, .int .i64 la.1.2], .int .i64 la.2, .tuple #[.agg #[.int .i64 lw.1.1, .int .i64 lw.1.2], .int .i64 lw.2], .agg #[.int .i64 k, .int .i64 B, .int .i64 T, .int .i64 M, .int .i64 C], .agg #[.int .i64 x, .int .i64 y], .int .i64 (min (t + b) 50000), .tuple #[.agg #[.int .i64 lw.1.1, .int .i64 lw.1.2], .int .i64 lw.2], .agg #[.int .i64 lw.1.1, .int .i64 lw.1.2], .int .i64 lw.2, j74_97, j75_98, j76_99, j77_100, j78_101, j79_102, j80_103, j81_104, j82_105, j83_106, j84_107, j85_108, j86_109, j87_110, j88_111, j89_112, j90_113, j91_114, j92_115, j93_116, .tuple #[.agg #[.int .i64 pa.1.1, .int .i64 pa.1.2], .int .i64 pa.2], .agg #[.int .i64 k, .int .i64 B, .int .i64 T, .int .i64 M, .int .i64 C], .agg #[.int .i64 x, .int .i64 y], .int .i64 t, .tuple #[.agg #[.int .i64 pa.1.1, .int .i64 pa.1.2], .int .i64 pa.2], .agg #[.int .i64 pa.1.1, .int .i64 pa.1.2], .int .i64 pa.2, .tuple #[.agg #[.int .i64 pw.1.1, .int .i64 pw.1.2], .int .i64 pw.2], .agg #[.int .i64 k, .int .i64 B, .int .i64 T, .int .i64 M, .int .i64 C], .agg #[.int .i64 x, .int .i64 y], .int .i64 (min (t + b) 50000), .tuple #[.agg #[.int .i64 pw.1.1, .int .i64 pw.1.2], .int .i64 pw.2], .agg #[.int .i64 pw.1.1, .int .i64 pw.1.2], .int .i64 pw.2, j108_142, j109_143, j110_144, j111_145, j112_146, j113_147, j114_148, j115_149, j116_150, j117_151, j118_152, j119_153, j120_154, j121_155, j122_156, j123_157, j124_158, j125_159, j126_160, j127_161, undef, undef, undef, undef, undef, undef, undef, undef, undef, undef, undef, undef, undef, undef, undef, undef, undef, undef, undef, undef, undef, undef, undef, undef, undef, undef, undef, undef, undef, undef, undef, undef, undef, undef, undef, undef, undef, undef, undef, undef, undef, undef, undef, undef, undef, undef, undef, undef, undef, undef, undef, undef, undef, undef, undef, undef, undef, undef, undef, undef, undef, undef, undef, undef, undef, undef, undef, undef, undef, undef, undef, undef, undef, undef, undef, undef, undef, undef, undef, undef, undef, undef, undef, undef, undef, undef, undef, undef, undef, undef, undef, undef, undef, undef, undef, undef, undef, undef, undef, undef, undef, undef, undef, undef, undef, undef, undef, undef, undef, undef, undef, undef, undef, undef, undef, undef, undef, undef, undef], []⟩ ∧ Loc w [(g136, 55, [.int .i64 pw.1.1, .int .i64 pw.1.2]), (g129, 55, [.int .i64 pa.1.1, .int .i64 pa.1.2]), (g91, 55, [.int .i64 lw.1.1, .int .i64 lw.1.2]), (g84, 55, [.int .i64 la.1.1, .int .i64 la.1.2]), (cg9, 55, [.int .i64 x, .int .i64 y]), (cg6, 64, [.int .i64 k, .int .i64 B, .int .i64 T, .int .i64 M, .int .i64 C]), (g1, 70, [.int .i64 k, .int .i64 B, .int .i64 T, .int .i64 M, .int .i64 C, .int .i64 x, .int .i64 y, .int .i64 t, .int .u16 b])] uX) ?_ ?_
                  · skip
                    refine aw_seq ?_
                    refine aw_reg ?_
                    refine ax_val (v := .int .i64 pa.2) (.int .i64 pa.2) HB (by kernel_rfl) (by kernel_rfl) (rfl) ?_
                    refine ax_fork (pa.2 == 0) HB (by kernel_rfl) (by kernel_rfl) ?_ ?_
                    · intro f162
                      have k162 := eq_of_beq f162
                      refine ax_val (v := .bool true) (.bool true) HB (by kernel_rfl) (by kernel_rfl) (rfl) ?_
                      refine ax_val (v := .int .i64 pw.2) (.int .i64 pw.2) HB (by kernel_rfl) (by kernel_rfl) (rfl) ?_
                      refine ax_fork (pw.2 == 0) HB (by kernel_rfl) (by kernel_rfl) ?_ ?_
                      · intro f164
                        have k164 := eq_of_beq f164
                        refine ax_val (v := .bool true) (.bool true) HB (by kernel_rfl) (by kernel_rfl) (rfl) ?_
                        refine ax_val (v := .bool true) (.bool true) HB (by kernel_rfl) (by kernel_rfl) (rfl) ?_
                        refine ax_val (v := .pointer (some ⟨g136, 0, none⟩)) (.pointer (some ⟨g136, 0, none⟩)) HB (by kernel_rfl) (by kernel_rfl) (rfl) ?_
                        refine ax_load 2 (.tmp 115) 0 g136 0 55 [.int .i64 pw.1.1, .int .i64 pw.1.2] (.int .i64 pw.1.1) _ HB HL140 (by kernel_rfl) rfl (by kernel_rfl) rfl rfl Tryd.underlying2 rfl ?_
                        refine ax_val (v := .pointer (some ⟨g129, 0, none⟩)) (.pointer (some ⟨g129, 0, none⟩)) HB (by kernel_rfl) (by kernel_rfl) (rfl) ?_
                        refine ax_load 2 (.tmp 117) 1 g129 0 55 [.int .i64 pa.1.1, .int .i64 pa.1.2] (.int .i64 pa.1.1) _ HB HL140 (by kernel_rfl) rfl (by kernel_rfl) rfl rfl Tryd.underlying2 rfl ?_
                        refine ax_fork (decide (pw.1.1 < pa.1.1)) HB (by kernel_rfl) (by kernel_rfl) ?_ ?_
                        · intro f166
                          have k166 := of_decide_eq_true f166
                          refine ax_val (v := .bool true) (.bool true) HB (by kernel_rfl) (by kernel_rfl) (rfl) ?_
                          refine ax_pass  HB (by kernel_rfl) ?_
                          refine ax_pass  HB (by kernel_rfl) ?_
                          refine ax_pass  HB (by kernel_rfl) ?_
                          refine ax_pass  HB (by kernel_rfl) ?_
                          refine ax_pass  HB (by kernel_rfl) ?_
                          refine ax_val (v := .bool true) (.bool true) HB (by kernel_rfl) (by kernel_rfl) (rfl) ?_
                          refine ax_val (v := .bool true) (.bool true) HB (by kernel_rfl) (by kernel_rfl) (rfl) ?_
                          refine aw_nil ?_
                          refine aw_n_then ?_
                          refine ax_yes HB (by kernel_rfl) ?_
                          refine aw_seq ?_
                          refine aw_reg ?_
                          refine ax_val (v := .bool false) (.bool false) HB (by kernel_rfl) (by kernel_rfl) (rfl) ?_
                          refine aw_nil ?_
                          refine aw_n_then ?_
                          refine aw_ret ?_
                          exfalso
                          have R2 := HR2.out
                          omega
                        · intro f167
                          have k167 := of_decide_eq_false f167
                          refine ax_val (v := .bool false) (.bool false) HB (by kernel_rfl) (by kernel_rfl) (rfl) ?_
                          refine ax_val (v := .pointer (some ⟨g136, 1, none⟩)) (.pointer (some ⟨g136, 1, none⟩)) HB (by kernel_rfl) (by kernel_rfl) (rfl) ?_
                          refine ax_load 2 (.tmp 121) 0 g136 1 55 [.int .i64 pw.1.1, .int .i64 pw.1.2] (.int .i64 pw.1.2) _ HB HL140 (by kernel_rfl) rfl (by kernel_rfl) rfl rfl Tryd.underlying2 rfl ?_
                          refine ax_val (v := .pointer (some ⟨g129, 1, none⟩)) (.pointer (some ⟨g129, 1, none⟩)) HB (by kernel_rfl) (by kernel_rfl) (rfl) ?_
                          refine ax_load 2 (.tmp 123) 1 g129 1 55 [.int .i64 pa.1.1, .int .i64 pa.1.2] (.int .i64 pa.1.2) _ HB HL140 (by kernel_rfl) rfl (by kernel_rfl) rfl rfl Tryd.underlying2 rfl ?_
                          refine ax_fork (decide (pw.1.2 < pa.1.2)) HB (by kernel_rfl) (by kernel_rfl) ?_ ?_
                          · intro f168
                            have k168 := of_decide_eq_true f168
                            refine ax_val (v := .bool true) (.bool true) HB (by kernel_rfl) (by kernel_rfl) (rfl) ?_
                            refine ax_val (v := .bool true) (.bool true) HB (by kernel_rfl) (by kernel_rfl) (rfl) ?_
                            refine aw_nil ?_
                            refine aw_n_then ?_
                            refine ax_yes HB (by kernel_rfl) ?_
                            refine aw_seq ?_
                            refine aw_reg ?_
                            refine ax_val (v := .bool false) (.bool false) HB (by kernel_rfl) (by kernel_rfl) (rfl) ?_
                            refine aw_nil ?_
                            refine aw_n_then ?_
                            refine aw_ret ?_
                            exfalso
                            have R2 := HR2.out
                            omega
                          · intro f169
                            have k169 := of_decide_eq_false f169
                            refine ax_val (v := .bool false) (.bool false) HB (by kernel_rfl) (by kernel_rfl) (rfl) ?_
                            refine ax_val (v := .bool false) (.bool false) HB (by kernel_rfl) (by kernel_rfl) (rfl) ?_
                            refine aw_nil ?_
                            refine aw_n_then ?_
                            refine ax_no HB (by kernel_rfl) ?_
                            refine aw_skip0 ?_
                            exact ⟨⟨rfl, (j2_96), (.int .i64 pa.2), (.bool true), (.bool true), (.int .i64 pw.2), (.bool true), (.bool true), (.bool true), (.pointer (some ⟨g136, 0, none⟩)), (.int .i64 pw.1.1), (.pointer (some ⟨g129, 0, none⟩)), (.int .i64 pa.1.1), (.bool false), (.bool false), (.pointer (some ⟨g136, 1, none⟩)), (.int .i64 pw.1.2), (.pointer (some ⟨g129, 1, none⟩)), (.int .i64 pa.1.2), (.bool false), (.bool false), (.bool false), (by kernel_rfl), HL140⟩⟩
                      · intro f165
                        have k165 := ne_of_beq_false f165
                        refine ax_val (v := .bool false) (.bool false) HB (by kernel_rfl) (by kernel_rfl) (rfl) ?_
                        refine ax_val (v := .bool false) (.bool false) HB (by kernel_rfl) (by kernel_rfl) (rfl) ?_
                        refine ax_pass  HB (by kernel_rfl) ?_
                        refine ax_pass  HB (by kernel_rfl) ?_
                        refine ax_pass  HB (by kernel_rfl) ?_
                        refine ax_pass  HB (by kernel_rfl) ?_
                        refine ax_pass  HB (by kernel_rfl) ?_
                        refine ax_pass  HB (by kernel_rfl) ?_
                        refine ax_pass  HB (by kernel_rfl) ?_
                        refine ax_pass  HB (by kernel_rfl) ?_
                        refine ax_pass  HB (by kernel_rfl) ?_
                        refine ax_pass  HB (by kernel_rfl) ?_
                        refine ax_pass  HB (by kernel_rfl) ?_
                        refine ax_pass  HB (by kernel_rfl) ?_
                        refine ax_val (v := .bool false) (.bool false) HB (by kernel_rfl) (by kernel_rfl) (rfl) ?_
                        refine aw_nil ?_
                        refine aw_n_then ?_
                        refine ax_no HB (by kernel_rfl) ?_
                        refine aw_skip0 ?_
                        exact ⟨⟨rfl, (j2_96), (.int .i64 pa.2), (.bool true), (.bool true), (.int .i64 pw.2), (.bool false), (.bool false), (.bool false), (undef), (undef), (undef), (undef), (undef), (undef), (undef), (undef), (undef), (undef), (undef), (undef), (.bool false), (by kernel_rfl), HL140⟩⟩
                    · intro f163
                      have k163 := ne_of_beq_false f163
                      refine ax_val (v := .bool false) (.bool false) HB (by kernel_rfl) (by kernel_rfl) (rfl) ?_
                      refine ax_pass  HB (by kernel_rfl) ?_
                      refine ax_pass  HB (by kernel_rfl) ?_
                      refine ax_val (v := .bool false) (.bool false) HB (by kernel_rfl) (by kernel_rfl) (rfl) ?_
                      refine ax_val (v := .bool false) (.bool false) HB (by kernel_rfl) (by kernel_rfl) (rfl) ?_
                      refine ax_pass  HB (by kernel_rfl) ?_
                      refine ax_pass  HB (by kernel_rfl) ?_
                      refine ax_pass  HB (by kernel_rfl) ?_
                      refine ax_pass  HB (by kernel_rfl) ?_
                      refine ax_pass  HB (by kernel_rfl) ?_
                      refine ax_pass  HB (by kernel_rfl) ?_
                      refine ax_pass  HB (by kernel_rfl) ?_
                      refine ax_pass  HB (by kernel_rfl) ?_
                      refine ax_pass  HB (by kernel_rfl) ?_
                      refine ax_pass  HB (by kernel_rfl) ?_
                      refine ax_pass  HB (by kernel_rfl) ?_
                      refine ax_pass  HB (by kernel_rfl) ?_
                      refine ax_val (v := .bool false) (.bool false) HB (by kernel_rfl) (by kernel_rfl) (rfl) ?_
                      refine aw_nil ?_
                      refine aw_n_then ?_
                      refine ax_no HB (by kernel_rfl) ?_
                      refine aw_skip0 ?_
                      exact ⟨⟨rfl, (j2_96), (.int .i64 pa.2), (.bool false), (.bool false), (undef), (undef), (.bool false), (.bool false), (undef), (undef), (undef), (undef), (undef), (undef), (undef), (undef), (undef), (undef), (undef), (undef), (.bool false), (by kernel_rfl), HL140⟩⟩
                  · rintro _ _ w170 ⟨rfl, j2_141, j108_142, j109_143, j110_144, j111_145, j112_146, j113_147, j114_148, j115_149, j116_150, j117_151, j118_152, j119_153, j120_154, j121_155, j122_156, j123_157, j124_158, j125_159, j126_160, j127_161, rfl, HL171⟩
                    clear HL140
                    clear HB
                    have HB : Array.size (#[.agg #[.int .i64 k, .int .i64 B, .int .i64 T, .int .i64 M, .int .i64 C, .int .i64 x, .int .i64 y, .int .i64 t, .int .u16 b], .pointer (some ⟨g1, 0, none⟩), j2_141, .pointer (some ⟨cg6, 0, none⟩), .pointer (some ⟨cg9, 0, none⟩), .int .i64 t, .int .u16 b, .int .i64 (min (t + b) 50000), .pointer (some ⟨g84, 0, none⟩), .int .i64 la.2, .pointer (some ⟨g91, 0, none⟩), .int .i64 lw.2, .pointer (some ⟨g129, 0, none⟩), .int .i64 pa.2, .pointer (some ⟨g136, 0, none⟩), .int .i64 pw.2, undef, undef, .pointer (some ⟨g1, 0, none⟩), .agg #[.int .i64 k, .int .i64 B, .int .i64 T, .int .i64 M, .int .i64 C], .pointer (some ⟨g1, 5, none⟩), .agg #[.int .i64 x, .int .i64 y], .pointer (some ⟨g1, 7, none⟩), .int .i64 t, .pointer (some ⟨g1, 8, none⟩), .int .u16 b, .int .i64 t, .bool false, .bool false, .int .i64 t, .bool false, .bool false, .bool false, .pointer (some ⟨cg9, 0, none⟩), .int .i64 x, .bool false, .bool false, .bool false, .pointer (some ⟨cg9, 1, none⟩), .int .i64 y, .bool false, .bool false, .bool false, .pointer (some ⟨cg9, 0, none⟩), .int .i64 x, .pointer (some ⟨cg9, 1, none⟩), .int .i64 y, .bool false, .bool false, .bool false, .agg #[.int .i64 k, .int .i64 B, .int .i64 T, .int .i64 M, .int .i64 C], .int .i64 (if bdB k B T M C = true then (0 : Int) else 2), .bool false, .bool false, undef, .int .i64 t, .int .u16 b, .int .i64 b, .int .i64 (t + b), .int .i64 (min (t + b) 50000), .tuple #[.agg #[.int .i64 la.1.1, .int .i64 la.1.2], .int .i64 la.2], .agg #[.int .i64 k, .int .i64 B, .int .i64 T, .int .i64 M, .int .i64 C], .agg #[.int .i64 x, .int .i64 y], .int .i64 t, .tuple #[.agg #[.int .i64 la.1.1, .int .i64 la.1.2], .int .i64 la.2], .agg #[.int .i64 la.1.1, .int .i64 la.1.2], .int .i64 la.2, .tuple #[.agg #[.int .i64 lw.1.1, .int .i64 lw.1.2], .int .i64 lw.2], .agg #[.int .i64 k, .int .i64 B, .int .i64 T, .int .i64 M, .int .i64 C], .agg #[.int .i64 x, .int .i64 y], .int .i64 (min (t + b) 50000), .tuple #[.agg #[.int .i64 lw.1.1, .int .i64 lw.1.2], .int .i64 lw.2], .agg #[.int .i64 lw.1.1, .int .i64 lw.1.2], .int .i64 lw.2, j74_97, j75_98, j76_99, j77_100, j78_101, j79_102, j80_103, j81_104, j82_105, j83_106, j84_107, j85_108, j86_109, j87_110, j88_111, j89_112, j90_113, j91_114, j92_115, j93_116, .tuple #[.agg #[.int .i64 pa.1.1, .int .i64 pa.1.2], .int .i64 pa.2], .agg #[.int .i64 k, .int .i64 B, .int .i64 T, .int .i64 M, .int .i64 C], .agg #[.int .i64 x, .int .i64 y], .int .i64 t, .tuple #[.agg #[.int .i64 pa.1.1, .int .i64 pa.1.2], .int .i64 pa.2], .agg #[.int .i64 pa.1.1, .int .i64 pa.1.2], .int .i64 pa.2, .tuple #[.agg #[.int .i64 pw.1.1, .int .i64 pw.1.2], .int .i64 pw.2], .agg #[.int .i64 k, .int .i64 B, .int .i64 T, .int .i64 M, .int .i64 C], .agg #[.int .i64 x, .int .i64 y], .int .i64 (min (t + b) 50000), .tuple #[.agg #[.int .i64 pw.1.1, .int .i64 pw.1.2], .int .i64 pw.2], .agg #[.int .i64 pw.1.1, .int .i64 pw.1.2], .int .i64 pw.2, j108_142, j109_143, j110_144, j111_145, j112_146, j113_147, j114_148, j115_149, j116_150, j117_151, j118_152, j119_153, j120_154, j121_155, j122_156, j123_157, j124_158, j125_159, j126_160, j127_161, undef, undef, undef, undef, undef, undef, undef, undef, undef, undef, undef, undef, undef, undef, undef, undef, undef, undef, undef, undef, undef, undef, undef, undef, undef, undef, undef, undef, undef, undef, undef, undef, undef, undef, undef, undef, undef, undef, undef, undef, undef, undef, undef, undef, undef, undef, undef, undef, undef, undef, undef, undef, undef, undef, undef, undef, undef, undef, undef, undef, undef, undef, undef, undef, undef, undef, undef, undef, undef, undef, undef, undef, undef, undef, undef, undef, undef, undef, undef, undef, undef, undef, undef, undef, undef, undef, undef, undef, undef, undef, undef, undef, undef, undef, undef, undef, undef, undef, undef, undef, undef, undef, undef, undef, undef, undef, undef, undef, undef, undef, undef, undef, undef, undef, undef, undef, undef, undef, undef] : Array Value) = 247 := by kernel_rfl
                    refine Boxw.out (ax_re ?_)
                    refine aw_n_then ?_
                    refine aw_seq ?_
                    refine aw_reg ?_
                    refine ax_val (v := .pointer (some ⟨cg9, 0, none⟩)) (.pointer (some ⟨cg9, 0, none⟩)) HB (by kernel_rfl) (by kernel_rfl) (rfl) ?_
                    refine ax_load 2 (.tmp 128) 4 cg9 0 55 [.int .i64 x, .int .i64 y] (.int .i64 x) _ HB HL171 (by kernel_rfl) rfl (by kernel_rfl) rfl rfl Tryd.underlying2 rfl ?_
                    refine ax_val (v := .int .u16 b) (.int .u16 b) HB (by kernel_rfl) (by kernel_rfl) (rfl) ?_
                    refine ax_val (v := .int .i64 (IntKind.i64.wrap b)) (.int .i64 b) HB (by kernel_rfl) (by kernel_rfl) (congrArg (Value.int .i64) (IntWalk.i64_in _ (by omega))) ?_
                    refine ax_val (v := .int .i64 (IntKind.i64.wrap (x + b))) (.int .i64 (x + b)) HB (by kernel_rfl) (by kernel_rfl) (congrArg (Value.int .i64) (IntWalk.i64_in _ (by omega))) ?_
                    refine ax_val (v := .pointer (some ⟨cg9, 1, none⟩)) (.pointer (some ⟨cg9, 1, none⟩)) HB (by kernel_rfl) (by kernel_rfl) (rfl) ?_
                    refine ax_load 2 (.tmp 133) 4 cg9 1 55 [.int .i64 x, .int .i64 y] (.int .i64 y) _ HB HL171 (by kernel_rfl) rfl (by kernel_rfl) rfl rfl Tryd.underlying2 rfl ?_
                    refine ax_val (v := .int .u16 b) (.int .u16 b) HB (by kernel_rfl) (by kernel_rfl) (rfl) ?_
                    refine ax_val (v := .int .i64 (IntKind.i64.wrap b)) (.int .i64 b) HB (by kernel_rfl) (by kernel_rfl) (congrArg (Value.int .i64) (IntWalk.i64_in _ (by omega))) ?_
                    refine ax_val (v := .int .i64 (IntKind.i64.wrap (y + b))) (.int .i64 (y + b)) HB (by kernel_rfl) (by kernel_rfl) (congrArg (Value.int .i64) (IntWalk.i64_in _ (by omega))) ?_
                    refine ax_val (v := .agg #[.int .i64 (x + b), .int .i64 (y + b)]) (.agg #[.int .i64 (x + b), .int .i64 (y + b)]) HB (by kernel_rfl) (by kernel_rfl) (rfl) ?_
                    refine ax_new 55 [.int .i64 0, .int .i64 0] HB HL171 (by kernel_rfl) (by kernel_rfl) ?_
                    intro g172 w173 HL174
                    clear HL171
                    refine ax_store 55 (.tmp 16) (.tmp 138) 0 g172 0 55 [.int .i64 0, .int .i64 0] [.int .i64 (x + b), .int .i64 (y + b)] [.int .i64 (x + b), .int .i64 (y + b)] [(g172, 55, [.int .i64 (x + b), .int .i64 (y + b)]), (g136, 55, [.int .i64 pw.1.1, .int .i64 pw.1.2]), (g129, 55, [.int .i64 pa.1.1, .int .i64 pa.1.2]), (g91, 55, [.int .i64 lw.1.1, .int .i64 lw.1.2]), (g84, 55, [.int .i64 la.1.1, .int .i64 la.1.2]), (cg9, 55, [.int .i64 x, .int .i64 y]), (cg6, 64, [.int .i64 k, .int .i64 B, .int .i64 T, .int .i64 M, .int .i64 C]), (g1, 70, [.int .i64 k, .int .i64 B, .int .i64 T, .int .i64 M, .int .i64 C, .int .i64 x, .int .i64 y, .int .i64 t, .int .u16 b])] HB HL174 (by kernel_rfl) rfl (by kernel_rfl) (by kernel_rfl) rfl (by kernel_rfl) (by kernel_rfl) (Nat.le_of_ble_eq_true rfl) rfl rfl ?_
                    intro w175 HL176
                    clear HL174
                    refine aw_nil ?_
                    refine aw_n_then ?_
                    refine aw_seq ?_
                    refine aw_reg ?_
                    refine ax_mid 64 (.tmp 3) 6 cg6 0 64 [.int .i64 k, .int .i64 B, .int .i64 T, .int .i64 M, .int .i64 C] [.int .i64 k, .int .i64 B, .int .i64 T, .int .i64 M, .int .i64 C] _ HB HL176 (by kernel_rfl) rfl (by kernel_rfl) rfl rfl Tryd.underlying64 rfl (by kernel_rfl) ?_
                    refine ax_mid 55 (.tmp 16) 0 g172 0 55 [.int .i64 (x + b), .int .i64 (y + b)] [.int .i64 (x + b), .int .i64 (y + b)] _ HB HL176 (by kernel_rfl) rfl (by kernel_rfl) rfl rfl Tryd.underlying55 rfl (by kernel_rfl) ?_
                    refine ax_val (v := .int .i64 t) (.int .i64 t) HB (by kernel_rfl) (by kernel_rfl) (rfl) ?_
                    refine ax_call 33 #[.agg #[.int .i64 k, .int .i64 B, .int .i64 T, .int .i64 M, .int .i64 C], .agg #[.int .i64 (x + b), .int .i64 (y + b)], .int .i64 t] (.tuple #[.agg #[.int .i64 ly.1.1, .int .i64 ly.1.2], .int .i64 ly.2]) HB HL176 (by kernel_rfl) (by kernel_rfl) ((by have h0 := Length_any k B T M C (x + b) (y + b) t w175 (hkd.loc HL176) ⟨by unfold I64; omega, by unfold I64; omega⟩; rw [hly] at h0; exact h0)) ?_
                    intro w177 HL178
                    clear HL176
                    refine ax_val (v := .tuple #[.agg #[.int .i64 ly.1.1, .int .i64 ly.1.2], .int .i64 ly.2]) (.tuple #[.agg #[.int .i64 ly.1.1, .int .i64 ly.1.2], .int .i64 ly.2]) HB (by kernel_rfl) (by kernel_rfl) (rfl) ?_
                    refine ax_val (v := .agg #[.int .i64 ly.1.1, .int .i64 ly.1.2]) (.agg #[.int .i64 ly.1.1, .int .i64 ly.1.2]) HB (by kernel_rfl) (by kernel_rfl) (rfl) ?_
                    refine ax_val (v := .int .i64 ly.2) (.int .i64 ly.2) HB (by kernel_rfl) (by kernel_rfl) (rfl) ?_
                    refine ax_store 55 (.tmp 10) (.tmp 144) 3 g91 0 55 [.int .i64 lw.1.1, .int .i64 lw.1.2] [.int .i64 ly.1.1, .int .i64 ly.1.2] [.int .i64 ly.1.1, .int .i64 ly.1.2] [(g172, 55, [.int .i64 (x + b), .int .i64 (y + b)]), (g136, 55, [.int .i64 pw.1.1, .int .i64 pw.1.2]), (g129, 55, [.int .i64 pa.1.1, .int .i64 pa.1.2]), (g91, 55, [.int .i64 ly.1.1, .int .i64 ly.1.2]), (g84, 55, [.int .i64 la.1.1, .int .i64 la.1.2]), (cg9, 55, [.int .i64 x, .int .i64 y]), (cg6, 64, [.int .i64 k, .int .i64 B, .int .i64 T, .int .i64 M, .int .i64 C]), (g1, 70, [.int .i64 k, .int .i64 B, .int .i64 T, .int .i64 M, .int .i64 C, .int .i64 x, .int .i64 y, .int .i64 t, .int .u16 b])] HB HL178 (by kernel_rfl) rfl (by kernel_rfl) (by kernel_rfl) rfl (by kernel_rfl) (by kernel_rfl) (Nat.le_of_ble_eq_true rfl) rfl rfl ?_
                    intro w179 HL180
                    clear HL178
                    refine ax_val (v := .int .i64 ly.2) (.int .i64 ly.2) HB (by kernel_rfl) (by kernel_rfl) (rfl) ?_
                    refine aw_nil ?_
                    refine aw_n_then ?_
                    refine aw_seq ?_
                    refine aw_reg ?_
                    refine ax_mid 64 (.tmp 3) 6 cg6 0 64 [.int .i64 k, .int .i64 B, .int .i64 T, .int .i64 M, .int .i64 C] [.int .i64 k, .int .i64 B, .int .i64 T, .int .i64 M, .int .i64 C] _ HB HL180 (by kernel_rfl) rfl (by kernel_rfl) rfl rfl Tryd.underlying64 rfl (by kernel_rfl) ?_
                    refine ax_mid 55 (.tmp 16) 0 g172 0 55 [.int .i64 (x + b), .int .i64 (y + b)] [.int .i64 (x + b), .int .i64 (y + b)] _ HB HL180 (by kernel_rfl) rfl (by kernel_rfl) rfl rfl Tryd.underlying55 rfl (by kernel_rfl) ?_
                    refine ax_val (v := .int .i64 t) (.int .i64 t) HB (by kernel_rfl) (by kernel_rfl) (rfl) ?_
                    refine ax_call 34 #[.agg #[.int .i64 k, .int .i64 B, .int .i64 T, .int .i64 M, .int .i64 C], .agg #[.int .i64 (x + b), .int .i64 (y + b)], .int .i64 t] (.tuple #[.agg #[.int .i64 py.1.1, .int .i64 py.1.2], .int .i64 py.2]) HB HL180 (by kernel_rfl) (by kernel_rfl) ((by have h0 := Pitch_any k B T M C (x + b) (y + b) t w179 (hkd.loc HL180) ⟨by unfold I64; omega, by unfold I64; omega⟩; rw [hpy] at h0; exact h0)) ?_
                    intro w181 HL182
                    clear HL180
                    refine ax_val (v := .tuple #[.agg #[.int .i64 py.1.1, .int .i64 py.1.2], .int .i64 py.2]) (.tuple #[.agg #[.int .i64 py.1.1, .int .i64 py.1.2], .int .i64 py.2]) HB (by kernel_rfl) (by kernel_rfl) (rfl) ?_
                    refine ax_val (v := .agg #[.int .i64 py.1.1, .int .i64 py.1.2]) (.agg #[.int .i64 py.1.1, .int .i64 py.1.2]) HB (by kernel_rfl) (by kernel_rfl) (rfl) ?_
                    refine ax_val (v := .int .i64 py.2) (.int .i64 py.2) HB (by kernel_rfl) (by kernel_rfl) (rfl) ?_
                    refine ax_store 55 (.tmp 14) (.tmp 151) 1 g136 0 55 [.int .i64 pw.1.1, .int .i64 pw.1.2] [.int .i64 py.1.1, .int .i64 py.1.2] [.int .i64 py.1.1, .int .i64 py.1.2] [(g172, 55, [.int .i64 (x + b), .int .i64 (y + b)]), (g136, 55, [.int .i64 py.1.1, .int .i64 py.1.2]), (g129, 55, [.int .i64 pa.1.1, .int .i64 pa.1.2]), (g91, 55, [.int .i64 ly.1.1, .int .i64 ly.1.2]), (g84, 55, [.int .i64 la.1.1, .int .i64 la.1.2]), (cg9, 55, [.int .i64 x, .int .i64 y]), (cg6, 64, [.int .i64 k, .int .i64 B, .int .i64 T, .int .i64 M, .int .i64 C]), (g1, 70, [.int .i64 k, .int .i64 B, .int .i64 T, .int .i64 M, .int .i64 C, .int .i64 x, .int .i64 y, .int .i64 t, .int .u16 b])] HB HL182 (by kernel_rfl) rfl (by kernel_rfl) (by kernel_rfl) rfl (by kernel_rfl) (by kernel_rfl) (Nat.le_of_ble_eq_true rfl) rfl rfl ?_
                    intro w183 HL184
                    clear HL182
                    refine ax_val (v := .int .i64 py.2) (.int .i64 py.2) HB (by kernel_rfl) (by kernel_rfl) (rfl) ?_
                    refine aw_nil ?_
                    refine aw_n_then ?_
                    refine aw_seq ?_
                    refine aw_cut (fun eX bX uX => eX = .normal ∧ ∃ (j2_185 : Value) (j153_186 : Value) (j154_187 : Value) (j155_188 : Value) (j156_189 : Value) (j157_190 : Value) (j158_191 : Value) (j159_192 : Value) (j160_193 : Value) (j161_194 : Value) (j162_195 : Value) (j163_196 : Value) (j164_197 : Value) (j165_198 : Value) (j166_199 : Value) (j167_200 : Value) (j168_201 : Value) (j169_202 : Value) (j170_203 : Value) (j171_204 : Value) (j172_205 : Value) (j173_206 : Value) (j174_207 : Value) (j175_208 : Value) (j176_209 : Value) (j177_210 : Value) (j178_211 : Value) (j179_212 : Value) (j180_213 : Value) (j181_214 : Value) (j182_215 : Value) (j183_216 : Value) (j184_217 : Value) (j185_218 : Value) (j186_219 : Value) (j187_220 : Value) (j188_221 : Value) (j189_222 : Value) (j190_223 : Value) (j191_224 : Value) (j192_225 : Value) (j193_226 : Value) (j194_227 : Value), bX = ⟨#[.agg #[.int .i64 k, .int .i64 B, .int .i64 T, .int .i64 M, .int .i64 C, .int .i64 x, .int .i64 y, .int .i64 t, .int .u16 b], .pointer (some ⟨g1, 0, none⟩), j2_185, .pointer (some ⟨cg6, 0, none⟩), .pointer (some ⟨cg9, 0, none⟩), .int .i64 t, .int .u16 b, .int .i64 (min (t + b) 50000), .pointer (some ⟨g84, 0, none⟩), .int .i64 la.2, .pointer (some ⟨g91, 0, none⟩), .int .i64 ly.2, .pointer (some ⟨g129, 0, none⟩), .int .i64 pa.2, .pointer (some ⟨g136, 0, none⟩), .int .i64 py.2, .pointer (some ⟨g172, 0, none⟩), undef, .pointer (some ⟨g1, 0, none⟩), .agg #[.int .i64 k, .int .i64 B, .int .i64 T, .int .i64 M, .int .i64 C], .pointer (some ⟨g1, 5, none⟩), .agg #[.int .i64 x, .int .i64 y], .pointer (some ⟨g1, 7, none⟩), .int .i64 t, .pointer (some ⟨g1, 8, none⟩), .int .u16 b, .int .i64 t, .bool false, .bool false, .int .i64 t, .bool false, .bool false, .bool false, .pointer (some ⟨cg9, 0, none⟩), .int .i64 x, .bool false, .bool false, .bool false, .pointer (some ⟨cg9, 1, none⟩), .int .i64 y, .bool false, .bool false, .bool false, .pointer (some ⟨cg9, 0, none⟩), .int .i64 x, .pointer (some ⟨cg9, 1, none⟩), .int .i64 y, .bool false, .bool false, .bool false, .agg #[.int .i64 k, .int .i64 B, .int .i64 T, .int .i64 M, .int .i64 C], .int .i64 (if bdB k B T M C = true then (0 : Int) else 2), .bool false, .bool false, undef, .int .i64 t, .int .u16 b, .int .i64 b, .int .i64 (t + b), .int .i64 (min (t + b) 50000), .tuple #[.agg #[.int .i64 la.1.1, .int .i64 la.1.2], .int .i64 la.2], .agg #[.int .i64 k, .int .i64 B, .int .i64 T, .int .i64 M, .int .i64 C], .agg #[.int .i64 x, .int .i64 y], .int .i64 t, .tuple #[.agg #[.int .i64 la.1.1, .int .i64 la.1.2], .int .i64 la.2], .agg #[.int .i64 la.1.1, .int .i64 la.1.2], .int .i64 la.2, .tuple #[.agg #[.int .i64 lw.1.1, .int .i64 lw.1.2], .int .i64 lw.2], .agg #[.int .i64 k, .int .i64 B, .int .i64 T, .int .i64 M, .int .i64 C], .agg #[.int .i64 x, .int .i64 y], .int .i64 (min (t + b) 50000), .tuple #[.agg #[.int .i64 lw.1.1, .int .i64 lw.1.2], .int .i64 lw.2], .agg #[.int .i64 lw.1.1, .int .i64 lw.1.2], .int .i64 lw.2, j74_97, j75_98, j76_99, j77_100, j78_101, j79_102, j80_103, j81_104, j82_105, j83_106, j84_107, j85_108, j86_109, j87_110, j88_111, j89_112, j90_113, j91_114, j92_115, j93_116, .tuple #[.agg #[.int .i64 pa.1.1, .int .i64 pa.1.2], .int .i64 pa.2], .agg #[.int .i64 k, .int .i64 B, .int .i64 T, .int .i64 M, .int .i64 C], .agg #[.int .i64 x, .int .i64 y], .int .i64 t, .tuple #[.agg #[.int .i64 pa.1.1, .int .i64 pa.1.2], .int .i64 pa.2], .agg #[.int .i64 pa.1.1, .int .i64 pa.1.2], .int .i64 pa.2, .tuple #[.agg #[.int .i64 pw.1.1, .int .i64 pw.1.2], .int .i64 pw.2], .agg #[.int .i64 k, .int .i64 B, .int .i64 T, .int .i64 M, .int .i64 C], .agg #[.int .i64 x, .int .i64 y], .int .i64 (min (t + b) 50000), .tuple #[.agg #[.int .i64 pw.1.1, .int .i64 pw.1.2], .int .i64 pw.2], .agg #[.int .i64 pw.1.1, .int .i64 pw.1.2], .int .i64 pw.2, j108_142, j109_143, j110_144, j111_145, j112_146, j113_147, j114_148, j115_149, j116_150, j117_151, j118_152, j119_153, j120_154, j121_155, j122_156, j123_157, j124_158, j125_159, j126_160, j127_161, .pointer (some ⟨cg9, 0, none⟩), .int .i64 x, .int .u16 b, .int .i64 b, .int .i64 (x + b), .pointer (some ⟨cg9, 1, none⟩), .int .i64 y, .int .u16 b, .int .i64 b, .int .i64 (y + b), .agg #[.int .i64 (x + b), .int .i64 (y + b)], .tuple #[.agg #[.int .i64 ly.1.1, .int .i64 ly.1.2], .int .i64 ly.2], .agg #[.int .i64 k, .int .i64 B, .int .i64 T, .int .i64 M, .int .i64 C], .agg #[.int .i64 (x + b), .int .i64 (y + b)], .int .i64 t, .tuple #[.agg #[.int .i64 ly.1.1, .int .i64 ly.1.2], .int .i64 ly.2], .agg #[.int .i64 ly.1.1, .int .i64 ly.1.2], .int .i64 ly.2, .tuple #[.agg #[.int .i64 py.1.1, .int .i64 py.1.2], .int .i64 py.2], .agg #[.int .i64 k, .int .i64 B, .int .i64 T, .int .i64 M, .int .i64 C], .agg #[.int .i64 (x + b), .int .i64 (y + b)], .int .i64 t, .tuple #[.agg #[.int .i64 py.1.1, .int .i64 py.1.2], .int .i64 py.2], .agg #[.int .i64 py.1.1, .int .i64 py.1.2], .int .i64 py.2, j153_186, j154_187, j155_188, j156_189, j157_190, j158_191, j159_192, j160_193, j161_194, j162_195, j163_196, j164_197, j165_198, j166_199, j167_200, j168_201, j169_202, j170_203, j171_204, j172_205, j173_206, j174_207, j175_208, j176_209, j177_210, j178_211, j179_212, j180_213, j181_214, j182_215, j183_216, j184_217, j185_218, j186_219, j187_220, j188_221, j189_222, j190_223, j191_224, j192_225, j193_226, j194_227, undef, undef, undef, undef, undef, undef, undef, undef, undef, undef, undef, undef, undef, undef, undef, undef, undef, undef, undef, undef, undef, undef, undef, undef, undef, undef, undef, undef, undef, undef, undef, undef, undef, undef, undef, undef, undef, undef, undef, undef, undef, undef, undef, undef, undef, undef, undef, undef, undef, undef, undef, undef], []⟩ ∧ Loc w [(g172, 55, [.int .i64 (x + b), .int .i64 (y + b)]), (g136, 55, [.int .i64 py.1.1, .int .i64 py.1.2]), (g129, 55, [.int .i64 pa.1.1, .int .i64 pa.1.2]), (g91, 55, [.int .i64 ly.1.1, .int .i64 ly.1.2]), (g84, 55, [.int .i64 la.1.1, .int .i64 la.1.2]), (cg9, 55, [.int .i64 x, .int .i64 y]), (cg6, 64, [.int .i64 k, .int .i64 B, .int .i64 T, .int .i64 M, .int .i64 C]), (g1, 70, [.int .i64 k, .int .i64 B, .int .i64 T, .int .i64 M, .int .i64 C, .int .i64 x, .int .i64 y, .int .i64 t, .int .u16 b])] uX) ?_ ?_
                    · skip
                      refine aw_seq ?_
                      refine aw_reg ?_
                      refine ax_val (v := .int .i64 la.2) (.int .i64 la.2) HB (by kernel_rfl) (by kernel_rfl) (rfl) ?_
                      refine ax_fork (la.2 == 0) HB (by kernel_rfl) (by kernel_rfl) ?_ ?_
                      · intro f228
                        have k228 := eq_of_beq f228
                        refine ax_val (v := .bool true) (.bool true) HB (by kernel_rfl) (by kernel_rfl) (rfl) ?_
                        refine ax_val (v := .int .i64 ly.2) (.int .i64 ly.2) HB (by kernel_rfl) (by kernel_rfl) (rfl) ?_
                        refine ax_fork (ly.2 == 0) HB (by kernel_rfl) (by kernel_rfl) ?_ ?_
                        · intro f230
                          have k230 := eq_of_beq f230
                          refine ax_val (v := .bool true) (.bool true) HB (by kernel_rfl) (by kernel_rfl) (rfl) ?_
                          refine ax_val (v := .bool true) (.bool true) HB (by kernel_rfl) (by kernel_rfl) (rfl) ?_
                          refine ax_val (v := .pointer (some ⟨g91, 0, none⟩)) (.pointer (some ⟨g91, 0, none⟩)) HB (by kernel_rfl) (by kernel_rfl) (rfl) ?_
                          refine ax_load 2 (.tmp 160) 3 g91 0 55 [.int .i64 ly.1.1, .int .i64 ly.1.2] (.int .i64 ly.1.1) _ HB HL184 (by kernel_rfl) rfl (by kernel_rfl) rfl rfl Tryd.underlying2 rfl ?_
                          refine ax_val (v := .pointer (some ⟨g84, 0, none⟩)) (.pointer (some ⟨g84, 0, none⟩)) HB (by kernel_rfl) (by kernel_rfl) (rfl) ?_
                          refine ax_load 2 (.tmp 162) 4 g84 0 55 [.int .i64 la.1.1, .int .i64 la.1.2] (.int .i64 la.1.1) _ HB HL184 (by kernel_rfl) rfl (by kernel_rfl) rfl rfl Tryd.underlying2 rfl ?_
                          refine ax_fork (decide (la.1.1 < ly.1.1)) HB (by kernel_rfl) (by kernel_rfl) ?_ ?_
                          · intro f232
                            have k232 := of_decide_eq_true f232
                            refine ax_val (v := .bool true) (.bool true) HB (by kernel_rfl) (by kernel_rfl) (rfl) ?_
                            refine ax_pass  HB (by kernel_rfl) ?_
                            refine ax_pass  HB (by kernel_rfl) ?_
                            refine ax_pass  HB (by kernel_rfl) ?_
                            refine ax_pass  HB (by kernel_rfl) ?_
                            refine ax_pass  HB (by kernel_rfl) ?_
                            refine ax_val (v := .bool true) (.bool true) HB (by kernel_rfl) (by kernel_rfl) (rfl) ?_
                            refine ax_val (v := .bool true) (.bool true) HB (by kernel_rfl) (by kernel_rfl) (rfl) ?_
                            refine ax_val (v := .bool true) (.bool true) HB (by kernel_rfl) (by kernel_rfl) (rfl) ?_
                            refine ax_pass  HB (by kernel_rfl) ?_
                            refine ax_pass  HB (by kernel_rfl) ?_
                            refine ax_pass  HB (by kernel_rfl) ?_
                            refine ax_pass  HB (by kernel_rfl) ?_
                            refine ax_pass  HB (by kernel_rfl) ?_
                            refine ax_pass  HB (by kernel_rfl) ?_
                            refine ax_pass  HB (by kernel_rfl) ?_
                            refine ax_pass  HB (by kernel_rfl) ?_
                            refine ax_pass  HB (by kernel_rfl) ?_
                            refine ax_pass  HB (by kernel_rfl) ?_
                            refine ax_pass  HB (by kernel_rfl) ?_
                            refine ax_pass  HB (by kernel_rfl) ?_
                            refine ax_pass  HB (by kernel_rfl) ?_
                            refine ax_pass  HB (by kernel_rfl) ?_
                            refine ax_pass  HB (by kernel_rfl) ?_
                            refine ax_pass  HB (by kernel_rfl) ?_
                            refine ax_pass  HB (by kernel_rfl) ?_
                            refine ax_pass  HB (by kernel_rfl) ?_
                            refine ax_pass  HB (by kernel_rfl) ?_
                            refine ax_pass  HB (by kernel_rfl) ?_
                            refine ax_val (v := .bool true) (.bool true) HB (by kernel_rfl) (by kernel_rfl) (rfl) ?_
                            refine aw_nil ?_
                            refine aw_n_then ?_
                            refine ax_yes HB (by kernel_rfl) ?_
                            refine aw_seq ?_
                            refine aw_reg ?_
                            refine ax_val (v := .bool false) (.bool false) HB (by kernel_rfl) (by kernel_rfl) (rfl) ?_
                            refine aw_nil ?_
                            refine aw_n_then ?_
                            refine aw_ret ?_
                            exfalso
                            have R3 := HR3.out
                            have R4 := HR4.out
                            omega
                          · intro f233
                            have k233 := of_decide_eq_false f233
                            refine ax_val (v := .bool false) (.bool false) HB (by kernel_rfl) (by kernel_rfl) (rfl) ?_
                            refine ax_val (v := .pointer (some ⟨g91, 1, none⟩)) (.pointer (some ⟨g91, 1, none⟩)) HB (by kernel_rfl) (by kernel_rfl) (rfl) ?_
                            refine ax_load 2 (.tmp 166) 3 g91 1 55 [.int .i64 ly.1.1, .int .i64 ly.1.2] (.int .i64 ly.1.2) _ HB HL184 (by kernel_rfl) rfl (by kernel_rfl) rfl rfl Tryd.underlying2 rfl ?_
                            refine ax_val (v := .pointer (some ⟨g84, 1, none⟩)) (.pointer (some ⟨g84, 1, none⟩)) HB (by kernel_rfl) (by kernel_rfl) (rfl) ?_
                            refine ax_load 2 (.tmp 168) 4 g84 1 55 [.int .i64 la.1.1, .int .i64 la.1.2] (.int .i64 la.1.2) _ HB HL184 (by kernel_rfl) rfl (by kernel_rfl) rfl rfl Tryd.underlying2 rfl ?_
                            refine ax_fork (decide (la.1.2 < ly.1.2)) HB (by kernel_rfl) (by kernel_rfl) ?_ ?_
                            · intro f234
                              have k234 := of_decide_eq_true f234
                              refine ax_val (v := .bool true) (.bool true) HB (by kernel_rfl) (by kernel_rfl) (rfl) ?_
                              refine ax_val (v := .bool true) (.bool true) HB (by kernel_rfl) (by kernel_rfl) (rfl) ?_
                              refine ax_val (v := .bool true) (.bool true) HB (by kernel_rfl) (by kernel_rfl) (rfl) ?_
                              refine ax_pass  HB (by kernel_rfl) ?_
                              refine ax_pass  HB (by kernel_rfl) ?_
                              refine ax_pass  HB (by kernel_rfl) ?_
                              refine ax_pass  HB (by kernel_rfl) ?_
                              refine ax_pass  HB (by kernel_rfl) ?_
                              refine ax_pass  HB (by kernel_rfl) ?_
                              refine ax_pass  HB (by kernel_rfl) ?_
                              refine ax_pass  HB (by kernel_rfl) ?_
                              refine ax_pass  HB (by kernel_rfl) ?_
                              refine ax_pass  HB (by kernel_rfl) ?_
                              refine ax_pass  HB (by kernel_rfl) ?_
                              refine ax_pass  HB (by kernel_rfl) ?_
                              refine ax_pass  HB (by kernel_rfl) ?_
                              refine ax_pass  HB (by kernel_rfl) ?_
                              refine ax_pass  HB (by kernel_rfl) ?_
                              refine ax_pass  HB (by kernel_rfl) ?_
                              refine ax_pass  HB (by kernel_rfl) ?_
                              refine ax_pass  HB (by kernel_rfl) ?_
                              refine ax_pass  HB (by kernel_rfl) ?_
                              refine ax_pass  HB (by kernel_rfl) ?_
                              refine ax_val (v := .bool true) (.bool true) HB (by kernel_rfl) (by kernel_rfl) (rfl) ?_
                              refine aw_nil ?_
                              refine aw_n_then ?_
                              refine ax_yes HB (by kernel_rfl) ?_
                              refine aw_seq ?_
                              refine aw_reg ?_
                              refine ax_val (v := .bool false) (.bool false) HB (by kernel_rfl) (by kernel_rfl) (rfl) ?_
                              refine aw_nil ?_
                              refine aw_n_then ?_
                              refine aw_ret ?_
                              exfalso
                              have R3 := HR3.out
                              have R4 := HR4.out
                              omega
                            · intro f235
                              have k235 := of_decide_eq_false f235
                              refine ax_val (v := .bool false) (.bool false) HB (by kernel_rfl) (by kernel_rfl) (rfl) ?_
                              refine ax_val (v := .bool false) (.bool false) HB (by kernel_rfl) (by kernel_rfl) (rfl) ?_
                              refine ax_val (v := .bool false) (.bool false) HB (by kernel_rfl) (by kernel_rfl) (rfl) ?_
                              refine ax_val (v := .int .i64 pa.2) (.int .i64 pa.2) HB (by kernel_rfl) (by kernel_rfl) (rfl) ?_
                              refine ax_fork (pa.2 == 0) HB (by kernel_rfl) (by kernel_rfl) ?_ ?_
                              · intro f236
                                have k236 := eq_of_beq f236
                                refine ax_val (v := .bool true) (.bool true) HB (by kernel_rfl) (by kernel_rfl) (rfl) ?_
                                refine ax_val (v := .int .i64 py.2) (.int .i64 py.2) HB (by kernel_rfl) (by kernel_rfl) (rfl) ?_
                                refine ax_fork (py.2 == 0) HB (by kernel_rfl) (by kernel_rfl) ?_ ?_
                                · intro f238
                                  have k238 := eq_of_beq f238
                                  refine ax_val (v := .bool true) (.bool true) HB (by kernel_rfl) (by kernel_rfl) (rfl) ?_
                                  refine ax_val (v := .bool true) (.bool true) HB (by kernel_rfl) (by kernel_rfl) (rfl) ?_
                                  refine ax_val (v := .pointer (some ⟨g136, 0, none⟩)) (.pointer (some ⟨g136, 0, none⟩)) HB (by kernel_rfl) (by kernel_rfl) (rfl) ?_
                                  refine ax_load 2 (.tmp 181) 1 g136 0 55 [.int .i64 py.1.1, .int .i64 py.1.2] (.int .i64 py.1.1) _ HB HL184 (by kernel_rfl) rfl (by kernel_rfl) rfl rfl Tryd.underlying2 rfl ?_
                                  refine ax_val (v := .pointer (some ⟨g129, 0, none⟩)) (.pointer (some ⟨g129, 0, none⟩)) HB (by kernel_rfl) (by kernel_rfl) (rfl) ?_
                                  refine ax_load 2 (.tmp 183) 2 g129 0 55 [.int .i64 pa.1.1, .int .i64 pa.1.2] (.int .i64 pa.1.1) _ HB HL184 (by kernel_rfl) rfl (by kernel_rfl) rfl rfl Tryd.underlying2 rfl ?_
                                  refine ax_fork (decide (pa.1.1 < py.1.1)) HB (by kernel_rfl) (by kernel_rfl) ?_ ?_
                                  · intro f240
                                    have k240 := of_decide_eq_true f240
                                    refine ax_val (v := .bool true) (.bool true) HB (by kernel_rfl) (by kernel_rfl) (rfl) ?_
                                    refine ax_pass  HB (by kernel_rfl) ?_
                                    refine ax_pass  HB (by kernel_rfl) ?_
                                    refine ax_pass  HB (by kernel_rfl) ?_
                                    refine ax_pass  HB (by kernel_rfl) ?_
                                    refine ax_pass  HB (by kernel_rfl) ?_
                                    refine ax_val (v := .bool true) (.bool true) HB (by kernel_rfl) (by kernel_rfl) (rfl) ?_
                                    refine ax_val (v := .bool true) (.bool true) HB (by kernel_rfl) (by kernel_rfl) (rfl) ?_
                                    refine ax_val (v := .bool true) (.bool true) HB (by kernel_rfl) (by kernel_rfl) (rfl) ?_
                                    refine aw_nil ?_
                                    refine aw_n_then ?_
                                    refine ax_yes HB (by kernel_rfl) ?_
                                    refine aw_seq ?_
                                    refine aw_reg ?_
                                    refine ax_val (v := .bool false) (.bool false) HB (by kernel_rfl) (by kernel_rfl) (rfl) ?_
                                    refine aw_nil ?_
                                    refine aw_n_then ?_
                                    refine aw_ret ?_
                                    exfalso
                                    have R3 := HR3.out
                                    have R4 := HR4.out
                                    omega
                                  · intro f241
                                    have k241 := of_decide_eq_false f241
                                    refine ax_val (v := .bool false) (.bool false) HB (by kernel_rfl) (by kernel_rfl) (rfl) ?_
                                    refine ax_val (v := .pointer (some ⟨g136, 1, none⟩)) (.pointer (some ⟨g136, 1, none⟩)) HB (by kernel_rfl) (by kernel_rfl) (rfl) ?_
                                    refine ax_load 2 (.tmp 187) 1 g136 1 55 [.int .i64 py.1.1, .int .i64 py.1.2] (.int .i64 py.1.2) _ HB HL184 (by kernel_rfl) rfl (by kernel_rfl) rfl rfl Tryd.underlying2 rfl ?_
                                    refine ax_val (v := .pointer (some ⟨g129, 1, none⟩)) (.pointer (some ⟨g129, 1, none⟩)) HB (by kernel_rfl) (by kernel_rfl) (rfl) ?_
                                    refine ax_load 2 (.tmp 189) 2 g129 1 55 [.int .i64 pa.1.1, .int .i64 pa.1.2] (.int .i64 pa.1.2) _ HB HL184 (by kernel_rfl) rfl (by kernel_rfl) rfl rfl Tryd.underlying2 rfl ?_
                                    refine ax_fork (decide (pa.1.2 < py.1.2)) HB (by kernel_rfl) (by kernel_rfl) ?_ ?_
                                    · intro f242
                                      have k242 := of_decide_eq_true f242
                                      refine ax_val (v := .bool true) (.bool true) HB (by kernel_rfl) (by kernel_rfl) (rfl) ?_
                                      refine ax_val (v := .bool true) (.bool true) HB (by kernel_rfl) (by kernel_rfl) (rfl) ?_
                                      refine ax_val (v := .bool true) (.bool true) HB (by kernel_rfl) (by kernel_rfl) (rfl) ?_
                                      refine aw_nil ?_
                                      refine aw_n_then ?_
                                      refine ax_yes HB (by kernel_rfl) ?_
                                      refine aw_seq ?_
                                      refine aw_reg ?_
                                      refine ax_val (v := .bool false) (.bool false) HB (by kernel_rfl) (by kernel_rfl) (rfl) ?_
                                      refine aw_nil ?_
                                      refine aw_n_then ?_
                                      refine aw_ret ?_
                                      exfalso
                                      have R3 := HR3.out
                                      have R4 := HR4.out
                                      omega
                                    · intro f243
                                      have k243 := of_decide_eq_false f243
                                      refine ax_val (v := .bool false) (.bool false) HB (by kernel_rfl) (by kernel_rfl) (rfl) ?_
                                      refine ax_val (v := .bool false) (.bool false) HB (by kernel_rfl) (by kernel_rfl) (rfl) ?_
                                      refine ax_val (v := .bool false) (.bool false) HB (by kernel_rfl) (by kernel_rfl) (rfl) ?_
                                      refine aw_nil ?_
                                      refine aw_n_then ?_
                                      refine ax_no HB (by kernel_rfl) ?_
                                      refine aw_skip0 ?_
                                      exact ⟨⟨rfl, (j2_141), (.int .i64 la.2), (.bool true), (.bool true), (.int .i64 ly.2), (.bool true), (.bool true), (.bool true), (.pointer (some ⟨g91, 0, none⟩)), (.int .i64 ly.1.1), (.pointer (some ⟨g84, 0, none⟩)), (.int .i64 la.1.1), (.bool false), (.bool false), (.pointer (some ⟨g91, 1, none⟩)), (.int .i64 ly.1.2), (.pointer (some ⟨g84, 1, none⟩)), (.int .i64 la.1.2), (.bool false), (.bool false), (.bool false), (.bool false), (.int .i64 pa.2), (.bool true), (.bool true), (.int .i64 py.2), (.bool true), (.bool true), (.bool true), (.pointer (some ⟨g136, 0, none⟩)), (.int .i64 py.1.1), (.pointer (some ⟨g129, 0, none⟩)), (.int .i64 pa.1.1), (.bool false), (.bool false), (.pointer (some ⟨g136, 1, none⟩)), (.int .i64 py.1.2), (.pointer (some ⟨g129, 1, none⟩)), (.int .i64 pa.1.2), (.bool false), (.bool false), (.bool false), (.bool false), (by kernel_rfl), HL184⟩⟩
                                · intro f239
                                  have k239 := ne_of_beq_false f239
                                  refine ax_val (v := .bool false) (.bool false) HB (by kernel_rfl) (by kernel_rfl) (rfl) ?_
                                  refine ax_val (v := .bool false) (.bool false) HB (by kernel_rfl) (by kernel_rfl) (rfl) ?_
                                  refine ax_pass  HB (by kernel_rfl) ?_
                                  refine ax_pass  HB (by kernel_rfl) ?_
                                  refine ax_pass  HB (by kernel_rfl) ?_
                                  refine ax_pass  HB (by kernel_rfl) ?_
                                  refine ax_pass  HB (by kernel_rfl) ?_
                                  refine ax_pass  HB (by kernel_rfl) ?_
                                  refine ax_pass  HB (by kernel_rfl) ?_
                                  refine ax_pass  HB (by kernel_rfl) ?_
                                  refine ax_pass  HB (by kernel_rfl) ?_
                                  refine ax_pass  HB (by kernel_rfl) ?_
                                  refine ax_pass  HB (by kernel_rfl) ?_
                                  refine ax_pass  HB (by kernel_rfl) ?_
                                  refine ax_val (v := .bool false) (.bool false) HB (by kernel_rfl) (by kernel_rfl) (rfl) ?_
                                  refine ax_val (v := .bool false) (.bool false) HB (by kernel_rfl) (by kernel_rfl) (rfl) ?_
                                  refine aw_nil ?_
                                  refine aw_n_then ?_
                                  refine ax_no HB (by kernel_rfl) ?_
                                  refine aw_skip0 ?_
                                  exact ⟨⟨rfl, (j2_141), (.int .i64 la.2), (.bool true), (.bool true), (.int .i64 ly.2), (.bool true), (.bool true), (.bool true), (.pointer (some ⟨g91, 0, none⟩)), (.int .i64 ly.1.1), (.pointer (some ⟨g84, 0, none⟩)), (.int .i64 la.1.1), (.bool false), (.bool false), (.pointer (some ⟨g91, 1, none⟩)), (.int .i64 ly.1.2), (.pointer (some ⟨g84, 1, none⟩)), (.int .i64 la.1.2), (.bool false), (.bool false), (.bool false), (.bool false), (.int .i64 pa.2), (.bool true), (.bool true), (.int .i64 py.2), (.bool false), (.bool false), (.bool false), (undef), (undef), (undef), (undef), (undef), (undef), (undef), (undef), (undef), (undef), (undef), (undef), (.bool false), (.bool false), (by kernel_rfl), HL184⟩⟩
                              · intro f237
                                have k237 := ne_of_beq_false f237
                                refine ax_val (v := .bool false) (.bool false) HB (by kernel_rfl) (by kernel_rfl) (rfl) ?_
                                refine ax_pass  HB (by kernel_rfl) ?_
                                refine ax_pass  HB (by kernel_rfl) ?_
                                refine ax_val (v := .bool false) (.bool false) HB (by kernel_rfl) (by kernel_rfl) (rfl) ?_
                                refine ax_val (v := .bool false) (.bool false) HB (by kernel_rfl) (by kernel_rfl) (rfl) ?_
                                refine ax_pass  HB (by kernel_rfl) ?_
                                refine ax_pass  HB (by kernel_rfl) ?_
                                refine ax_pass  HB (by kernel_rfl) ?_
                                refine ax_pass  HB (by kernel_rfl) ?_
                                refine ax_pass  HB (by kernel_rfl) ?_
                                refine ax_pass  HB (by kernel_rfl) ?_
                                refine ax_pass  HB (by kernel_rfl) ?_
                                refine ax_pass  HB (by kernel_rfl) ?_
                                refine ax_pass  HB (by kernel_rfl) ?_
                                refine ax_pass  HB (by kernel_rfl) ?_
                                refine ax_pass  HB (by kernel_rfl) ?_
                                refine ax_pass  HB (by kernel_rfl) ?_
                                refine ax_val (v := .bool false) (.bool false) HB (by kernel_rfl) (by kernel_rfl) (rfl) ?_
                                refine ax_val (v := .bool false) (.bool false) HB (by kernel_rfl) (by kernel_rfl) (rfl) ?_
                                refine aw_nil ?_
                                refine aw_n_then ?_
                                refine ax_no HB (by kernel_rfl) ?_
                                refine aw_skip0 ?_
                                exact ⟨⟨rfl, (j2_141), (.int .i64 la.2), (.bool true), (.bool true), (.int .i64 ly.2), (.bool true), (.bool true), (.bool true), (.pointer (some ⟨g91, 0, none⟩)), (.int .i64 ly.1.1), (.pointer (some ⟨g84, 0, none⟩)), (.int .i64 la.1.1), (.bool false), (.bool false), (.pointer (some ⟨g91, 1, none⟩)), (.int .i64 ly.1.2), (.pointer (some ⟨g84, 1, none⟩)), (.int .i64 la.1.2), (.bool false), (.bool false), (.bool false), (.bool false), (.int .i64 pa.2), (.bool false), (.bool false), (undef), (undef), (.bool false), (.bool false), (undef), (undef), (undef), (undef), (undef), (undef), (undef), (undef), (undef), (undef), (undef), (undef), (.bool false), (.bool false), (by kernel_rfl), HL184⟩⟩
                        · intro f231
                          have k231 := ne_of_beq_false f231
                          refine ax_val (v := .bool false) (.bool false) HB (by kernel_rfl) (by kernel_rfl) (rfl) ?_
                          refine ax_val (v := .bool false) (.bool false) HB (by kernel_rfl) (by kernel_rfl) (rfl) ?_
                          refine ax_pass  HB (by kernel_rfl) ?_
                          refine ax_pass  HB (by kernel_rfl) ?_
                          refine ax_pass  HB (by kernel_rfl) ?_
                          refine ax_pass  HB (by kernel_rfl) ?_
                          refine ax_pass  HB (by kernel_rfl) ?_
                          refine ax_pass  HB (by kernel_rfl) ?_
                          refine ax_pass  HB (by kernel_rfl) ?_
                          refine ax_pass  HB (by kernel_rfl) ?_
                          refine ax_pass  HB (by kernel_rfl) ?_
                          refine ax_pass  HB (by kernel_rfl) ?_
                          refine ax_pass  HB (by kernel_rfl) ?_
                          refine ax_pass  HB (by kernel_rfl) ?_
                          refine ax_val (v := .bool false) (.bool false) HB (by kernel_rfl) (by kernel_rfl) (rfl) ?_
                          refine ax_val (v := .bool false) (.bool false) HB (by kernel_rfl) (by kernel_rfl) (rfl) ?_
                          refine ax_val (v := .int .i64 pa.2) (.int .i64 pa.2) HB (by kernel_rfl) (by kernel_rfl) (rfl) ?_
                          refine ax_fork (pa.2 == 0) HB (by kernel_rfl) (by kernel_rfl) ?_ ?_
                          · intro f244
                            have k244 := eq_of_beq f244
                            refine ax_val (v := .bool true) (.bool true) HB (by kernel_rfl) (by kernel_rfl) (rfl) ?_
                            refine ax_val (v := .int .i64 py.2) (.int .i64 py.2) HB (by kernel_rfl) (by kernel_rfl) (rfl) ?_
                            refine ax_fork (py.2 == 0) HB (by kernel_rfl) (by kernel_rfl) ?_ ?_
                            · intro f246
                              have k246 := eq_of_beq f246
                              refine ax_val (v := .bool true) (.bool true) HB (by kernel_rfl) (by kernel_rfl) (rfl) ?_
                              refine ax_val (v := .bool true) (.bool true) HB (by kernel_rfl) (by kernel_rfl) (rfl) ?_
                              refine ax_val (v := .pointer (some ⟨g136, 0, none⟩)) (.pointer (some ⟨g136, 0, none⟩)) HB (by kernel_rfl) (by kernel_rfl) (rfl) ?_
                              refine ax_load 2 (.tmp 181) 1 g136 0 55 [.int .i64 py.1.1, .int .i64 py.1.2] (.int .i64 py.1.1) _ HB HL184 (by kernel_rfl) rfl (by kernel_rfl) rfl rfl Tryd.underlying2 rfl ?_
                              refine ax_val (v := .pointer (some ⟨g129, 0, none⟩)) (.pointer (some ⟨g129, 0, none⟩)) HB (by kernel_rfl) (by kernel_rfl) (rfl) ?_
                              refine ax_load 2 (.tmp 183) 2 g129 0 55 [.int .i64 pa.1.1, .int .i64 pa.1.2] (.int .i64 pa.1.1) _ HB HL184 (by kernel_rfl) rfl (by kernel_rfl) rfl rfl Tryd.underlying2 rfl ?_
                              refine ax_fork (decide (pa.1.1 < py.1.1)) HB (by kernel_rfl) (by kernel_rfl) ?_ ?_
                              · intro f248
                                have k248 := of_decide_eq_true f248
                                refine ax_val (v := .bool true) (.bool true) HB (by kernel_rfl) (by kernel_rfl) (rfl) ?_
                                refine ax_pass  HB (by kernel_rfl) ?_
                                refine ax_pass  HB (by kernel_rfl) ?_
                                refine ax_pass  HB (by kernel_rfl) ?_
                                refine ax_pass  HB (by kernel_rfl) ?_
                                refine ax_pass  HB (by kernel_rfl) ?_
                                refine ax_val (v := .bool true) (.bool true) HB (by kernel_rfl) (by kernel_rfl) (rfl) ?_
                                refine ax_val (v := .bool true) (.bool true) HB (by kernel_rfl) (by kernel_rfl) (rfl) ?_
                                refine ax_val (v := .bool true) (.bool true) HB (by kernel_rfl) (by kernel_rfl) (rfl) ?_
                                refine aw_nil ?_
                                refine aw_n_then ?_
                                refine ax_yes HB (by kernel_rfl) ?_
                                refine aw_seq ?_
                                refine aw_reg ?_
                                refine ax_val (v := .bool false) (.bool false) HB (by kernel_rfl) (by kernel_rfl) (rfl) ?_
                                refine aw_nil ?_
                                refine aw_n_then ?_
                                refine aw_ret ?_
                                exfalso
                                have R3 := HR3.out
                                have R4 := HR4.out
                                omega
                              · intro f249
                                have k249 := of_decide_eq_false f249
                                refine ax_val (v := .bool false) (.bool false) HB (by kernel_rfl) (by kernel_rfl) (rfl) ?_
                                refine ax_val (v := .pointer (some ⟨g136, 1, none⟩)) (.pointer (some ⟨g136, 1, none⟩)) HB (by kernel_rfl) (by kernel_rfl) (rfl) ?_
                                refine ax_load 2 (.tmp 187) 1 g136 1 55 [.int .i64 py.1.1, .int .i64 py.1.2] (.int .i64 py.1.2) _ HB HL184 (by kernel_rfl) rfl (by kernel_rfl) rfl rfl Tryd.underlying2 rfl ?_
                                refine ax_val (v := .pointer (some ⟨g129, 1, none⟩)) (.pointer (some ⟨g129, 1, none⟩)) HB (by kernel_rfl) (by kernel_rfl) (rfl) ?_
                                refine ax_load 2 (.tmp 189) 2 g129 1 55 [.int .i64 pa.1.1, .int .i64 pa.1.2] (.int .i64 pa.1.2) _ HB HL184 (by kernel_rfl) rfl (by kernel_rfl) rfl rfl Tryd.underlying2 rfl ?_
                                refine ax_fork (decide (pa.1.2 < py.1.2)) HB (by kernel_rfl) (by kernel_rfl) ?_ ?_
                                · intro f250
                                  have k250 := of_decide_eq_true f250
                                  refine ax_val (v := .bool true) (.bool true) HB (by kernel_rfl) (by kernel_rfl) (rfl) ?_
                                  refine ax_val (v := .bool true) (.bool true) HB (by kernel_rfl) (by kernel_rfl) (rfl) ?_
                                  refine ax_val (v := .bool true) (.bool true) HB (by kernel_rfl) (by kernel_rfl) (rfl) ?_
                                  refine aw_nil ?_
                                  refine aw_n_then ?_
                                  refine ax_yes HB (by kernel_rfl) ?_
                                  refine aw_seq ?_
                                  refine aw_reg ?_
                                  refine ax_val (v := .bool false) (.bool false) HB (by kernel_rfl) (by kernel_rfl) (rfl) ?_
                                  refine aw_nil ?_
                                  refine aw_n_then ?_
                                  refine aw_ret ?_
                                  exfalso
                                  have R3 := HR3.out
                                  have R4 := HR4.out
                                  omega
                                · intro f251
                                  have k251 := of_decide_eq_false f251
                                  refine ax_val (v := .bool false) (.bool false) HB (by kernel_rfl) (by kernel_rfl) (rfl) ?_
                                  refine ax_val (v := .bool false) (.bool false) HB (by kernel_rfl) (by kernel_rfl) (rfl) ?_
                                  refine ax_val (v := .bool false) (.bool false) HB (by kernel_rfl) (by kernel_rfl) (rfl) ?_
                                  refine aw_nil ?_
                                  refine aw_n_then ?_
                                  refine ax_no HB (by kernel_rfl) ?_
                                  refine aw_skip0 ?_
                                  exact ⟨⟨rfl, (j2_141), (.int .i64 la.2), (.bool true), (.bool true), (.int .i64 ly.2), (.bool false), (.bool false), (.bool false), (undef), (undef), (undef), (undef), (undef), (undef), (undef), (undef), (undef), (undef), (undef), (undef), (.bool false), (.bool false), (.int .i64 pa.2), (.bool true), (.bool true), (.int .i64 py.2), (.bool true), (.bool true), (.bool true), (.pointer (some ⟨g136, 0, none⟩)), (.int .i64 py.1.1), (.pointer (some ⟨g129, 0, none⟩)), (.int .i64 pa.1.1), (.bool false), (.bool false), (.pointer (some ⟨g136, 1, none⟩)), (.int .i64 py.1.2), (.pointer (some ⟨g129, 1, none⟩)), (.int .i64 pa.1.2), (.bool false), (.bool false), (.bool false), (.bool false), (by kernel_rfl), HL184⟩⟩
                            · intro f247
                              have k247 := ne_of_beq_false f247
                              refine ax_val (v := .bool false) (.bool false) HB (by kernel_rfl) (by kernel_rfl) (rfl) ?_
                              refine ax_val (v := .bool false) (.bool false) HB (by kernel_rfl) (by kernel_rfl) (rfl) ?_
                              refine ax_pass  HB (by kernel_rfl) ?_
                              refine ax_pass  HB (by kernel_rfl) ?_
                              refine ax_pass  HB (by kernel_rfl) ?_
                              refine ax_pass  HB (by kernel_rfl) ?_
                              refine ax_pass  HB (by kernel_rfl) ?_
                              refine ax_pass  HB (by kernel_rfl) ?_
                              refine ax_pass  HB (by kernel_rfl) ?_
                              refine ax_pass  HB (by kernel_rfl) ?_
                              refine ax_pass  HB (by kernel_rfl) ?_
                              refine ax_pass  HB (by kernel_rfl) ?_
                              refine ax_pass  HB (by kernel_rfl) ?_
                              refine ax_pass  HB (by kernel_rfl) ?_
                              refine ax_val (v := .bool false) (.bool false) HB (by kernel_rfl) (by kernel_rfl) (rfl) ?_
                              refine ax_val (v := .bool false) (.bool false) HB (by kernel_rfl) (by kernel_rfl) (rfl) ?_
                              refine aw_nil ?_
                              refine aw_n_then ?_
                              refine ax_no HB (by kernel_rfl) ?_
                              refine aw_skip0 ?_
                              exact ⟨⟨rfl, (j2_141), (.int .i64 la.2), (.bool true), (.bool true), (.int .i64 ly.2), (.bool false), (.bool false), (.bool false), (undef), (undef), (undef), (undef), (undef), (undef), (undef), (undef), (undef), (undef), (undef), (undef), (.bool false), (.bool false), (.int .i64 pa.2), (.bool true), (.bool true), (.int .i64 py.2), (.bool false), (.bool false), (.bool false), (undef), (undef), (undef), (undef), (undef), (undef), (undef), (undef), (undef), (undef), (undef), (undef), (.bool false), (.bool false), (by kernel_rfl), HL184⟩⟩
                          · intro f245
                            have k245 := ne_of_beq_false f245
                            refine ax_val (v := .bool false) (.bool false) HB (by kernel_rfl) (by kernel_rfl) (rfl) ?_
                            refine ax_pass  HB (by kernel_rfl) ?_
                            refine ax_pass  HB (by kernel_rfl) ?_
                            refine ax_val (v := .bool false) (.bool false) HB (by kernel_rfl) (by kernel_rfl) (rfl) ?_
                            refine ax_val (v := .bool false) (.bool false) HB (by kernel_rfl) (by kernel_rfl) (rfl) ?_
                            refine ax_pass  HB (by kernel_rfl) ?_
                            refine ax_pass  HB (by kernel_rfl) ?_
                            refine ax_pass  HB (by kernel_rfl) ?_
                            refine ax_pass  HB (by kernel_rfl) ?_
                            refine ax_pass  HB (by kernel_rfl) ?_
                            refine ax_pass  HB (by kernel_rfl) ?_
                            refine ax_pass  HB (by kernel_rfl) ?_
                            refine ax_pass  HB (by kernel_rfl) ?_
                            refine ax_pass  HB (by kernel_rfl) ?_
                            refine ax_pass  HB (by kernel_rfl) ?_
                            refine ax_pass  HB (by kernel_rfl) ?_
                            refine ax_pass  HB (by kernel_rfl) ?_
                            refine ax_val (v := .bool false) (.bool false) HB (by kernel_rfl) (by kernel_rfl) (rfl) ?_
                            refine ax_val (v := .bool false) (.bool false) HB (by kernel_rfl) (by kernel_rfl) (rfl) ?_
                            refine aw_nil ?_
                            refine aw_n_then ?_
                            refine ax_no HB (by kernel_rfl) ?_
                            refine aw_skip0 ?_
                            exact ⟨⟨rfl, (j2_141), (.int .i64 la.2), (.bool true), (.bool true), (.int .i64 ly.2), (.bool false), (.bool false), (.bool false), (undef), (undef), (undef), (undef), (undef), (undef), (undef), (undef), (undef), (undef), (undef), (undef), (.bool false), (.bool false), (.int .i64 pa.2), (.bool false), (.bool false), (undef), (undef), (.bool false), (.bool false), (undef), (undef), (undef), (undef), (undef), (undef), (undef), (undef), (undef), (undef), (undef), (undef), (.bool false), (.bool false), (by kernel_rfl), HL184⟩⟩
                      · intro f229
                        have k229 := ne_of_beq_false f229
                        refine ax_val (v := .bool false) (.bool false) HB (by kernel_rfl) (by kernel_rfl) (rfl) ?_
                        refine ax_pass  HB (by kernel_rfl) ?_
                        refine ax_pass  HB (by kernel_rfl) ?_
                        refine ax_val (v := .bool false) (.bool false) HB (by kernel_rfl) (by kernel_rfl) (rfl) ?_
                        refine ax_val (v := .bool false) (.bool false) HB (by kernel_rfl) (by kernel_rfl) (rfl) ?_
                        refine ax_pass  HB (by kernel_rfl) ?_
                        refine ax_pass  HB (by kernel_rfl) ?_
                        refine ax_pass  HB (by kernel_rfl) ?_
                        refine ax_pass  HB (by kernel_rfl) ?_
                        refine ax_pass  HB (by kernel_rfl) ?_
                        refine ax_pass  HB (by kernel_rfl) ?_
                        refine ax_pass  HB (by kernel_rfl) ?_
                        refine ax_pass  HB (by kernel_rfl) ?_
                        refine ax_pass  HB (by kernel_rfl) ?_
                        refine ax_pass  HB (by kernel_rfl) ?_
                        refine ax_pass  HB (by kernel_rfl) ?_
                        refine ax_pass  HB (by kernel_rfl) ?_
                        refine ax_val (v := .bool false) (.bool false) HB (by kernel_rfl) (by kernel_rfl) (rfl) ?_
                        refine ax_val (v := .bool false) (.bool false) HB (by kernel_rfl) (by kernel_rfl) (rfl) ?_
                        refine ax_val (v := .int .i64 pa.2) (.int .i64 pa.2) HB (by kernel_rfl) (by kernel_rfl) (rfl) ?_
                        refine ax_fork (pa.2 == 0) HB (by kernel_rfl) (by kernel_rfl) ?_ ?_
                        · intro f252
                          have k252 := eq_of_beq f252
                          refine ax_val (v := .bool true) (.bool true) HB (by kernel_rfl) (by kernel_rfl) (rfl) ?_
                          refine ax_val (v := .int .i64 py.2) (.int .i64 py.2) HB (by kernel_rfl) (by kernel_rfl) (rfl) ?_
                          refine ax_fork (py.2 == 0) HB (by kernel_rfl) (by kernel_rfl) ?_ ?_
                          · intro f254
                            have k254 := eq_of_beq f254
                            refine ax_val (v := .bool true) (.bool true) HB (by kernel_rfl) (by kernel_rfl) (rfl) ?_
                            refine ax_val (v := .bool true) (.bool true) HB (by kernel_rfl) (by kernel_rfl) (rfl) ?_
                            refine ax_val (v := .pointer (some ⟨g136, 0, none⟩)) (.pointer (some ⟨g136, 0, none⟩)) HB (by kernel_rfl) (by kernel_rfl) (rfl) ?_
                            refine ax_load 2 (.tmp 181) 1 g136 0 55 [.int .i64 py.1.1, .int .i64 py.1.2] (.int .i64 py.1.1) _ HB HL184 (by kernel_rfl) rfl (by kernel_rfl) rfl rfl Tryd.underlying2 rfl ?_
                            refine ax_val (v := .pointer (some ⟨g129, 0, none⟩)) (.pointer (some ⟨g129, 0, none⟩)) HB (by kernel_rfl) (by kernel_rfl) (rfl) ?_
                            refine ax_load 2 (.tmp 183) 2 g129 0 55 [.int .i64 pa.1.1, .int .i64 pa.1.2] (.int .i64 pa.1.1) _ HB HL184 (by kernel_rfl) rfl (by kernel_rfl) rfl rfl Tryd.underlying2 rfl ?_
                            refine ax_fork (decide (pa.1.1 < py.1.1)) HB (by kernel_rfl) (by kernel_rfl) ?_ ?_
                            · intro f256
                              have k256 := of_decide_eq_true f256
                              refine ax_val (v := .bool true) (.bool true) HB (by kernel_rfl) (by kernel_rfl) (rfl) ?_
                              refine ax_pass  HB (by kernel_rfl) ?_
                              refine ax_pass  HB (by kernel_rfl) ?_
                              refine ax_pass  HB (by kernel_rfl) ?_
                              refine ax_pass  HB (by kernel_rfl) ?_
                              refine ax_pass  HB (by kernel_rfl) ?_
                              refine ax_val (v := .bool true) (.bool true) HB (by kernel_rfl) (by kernel_rfl) (rfl) ?_
                              refine ax_val (v := .bool true) (.bool true) HB (by kernel_rfl) (by kernel_rfl) (rfl) ?_
                              refine ax_val (v := .bool true) (.bool true) HB (by kernel_rfl) (by kernel_rfl) (rfl) ?_
                              refine aw_nil ?_
                              refine aw_n_then ?_
                              refine ax_yes HB (by kernel_rfl) ?_
                              refine aw_seq ?_
                              refine aw_reg ?_
                              refine ax_val (v := .bool false) (.bool false) HB (by kernel_rfl) (by kernel_rfl) (rfl) ?_
                              refine aw_nil ?_
                              refine aw_n_then ?_
                              refine aw_ret ?_
                              exfalso
                              have R3 := HR3.out
                              have R4 := HR4.out
                              omega
                            · intro f257
                              have k257 := of_decide_eq_false f257
                              refine ax_val (v := .bool false) (.bool false) HB (by kernel_rfl) (by kernel_rfl) (rfl) ?_
                              refine ax_val (v := .pointer (some ⟨g136, 1, none⟩)) (.pointer (some ⟨g136, 1, none⟩)) HB (by kernel_rfl) (by kernel_rfl) (rfl) ?_
                              refine ax_load 2 (.tmp 187) 1 g136 1 55 [.int .i64 py.1.1, .int .i64 py.1.2] (.int .i64 py.1.2) _ HB HL184 (by kernel_rfl) rfl (by kernel_rfl) rfl rfl Tryd.underlying2 rfl ?_
                              refine ax_val (v := .pointer (some ⟨g129, 1, none⟩)) (.pointer (some ⟨g129, 1, none⟩)) HB (by kernel_rfl) (by kernel_rfl) (rfl) ?_
                              refine ax_load 2 (.tmp 189) 2 g129 1 55 [.int .i64 pa.1.1, .int .i64 pa.1.2] (.int .i64 pa.1.2) _ HB HL184 (by kernel_rfl) rfl (by kernel_rfl) rfl rfl Tryd.underlying2 rfl ?_
                              refine ax_fork (decide (pa.1.2 < py.1.2)) HB (by kernel_rfl) (by kernel_rfl) ?_ ?_
                              · intro f258
                                have k258 := of_decide_eq_true f258
                                refine ax_val (v := .bool true) (.bool true) HB (by kernel_rfl) (by kernel_rfl) (rfl) ?_
                                refine ax_val (v := .bool true) (.bool true) HB (by kernel_rfl) (by kernel_rfl) (rfl) ?_
                                refine ax_val (v := .bool true) (.bool true) HB (by kernel_rfl) (by kernel_rfl) (rfl) ?_
                                refine aw_nil ?_
                                refine aw_n_then ?_
                                refine ax_yes HB (by kernel_rfl) ?_
                                refine aw_seq ?_
                                refine aw_reg ?_
                                refine ax_val (v := .bool false) (.bool false) HB (by kernel_rfl) (by kernel_rfl) (rfl) ?_
                                refine aw_nil ?_
                                refine aw_n_then ?_
                                refine aw_ret ?_
                                exfalso
                                have R3 := HR3.out
                                have R4 := HR4.out
                                omega
                              · intro f259
                                have k259 := of_decide_eq_false f259
                                refine ax_val (v := .bool false) (.bool false) HB (by kernel_rfl) (by kernel_rfl) (rfl) ?_
                                refine ax_val (v := .bool false) (.bool false) HB (by kernel_rfl) (by kernel_rfl) (rfl) ?_
                                refine ax_val (v := .bool false) (.bool false) HB (by kernel_rfl) (by kernel_rfl) (rfl) ?_
                                refine aw_nil ?_
                                refine aw_n_then ?_
                                refine ax_no HB (by kernel_rfl) ?_
                                refine aw_skip0 ?_
                                exact ⟨⟨rfl, (j2_141), (.int .i64 la.2), (.bool false), (.bool false), (undef), (undef), (.bool false), (.bool false), (undef), (undef), (undef), (undef), (undef), (undef), (undef), (undef), (undef), (undef), (undef), (undef), (.bool false), (.bool false), (.int .i64 pa.2), (.bool true), (.bool true), (.int .i64 py.2), (.bool true), (.bool true), (.bool true), (.pointer (some ⟨g136, 0, none⟩)), (.int .i64 py.1.1), (.pointer (some ⟨g129, 0, none⟩)), (.int .i64 pa.1.1), (.bool false), (.bool false), (.pointer (some ⟨g136, 1, none⟩)), (.int .i64 py.1.2), (.pointer (some ⟨g129, 1, none⟩)), (.int .i64 pa.1.2), (.bool false), (.bool false), (.bool false), (.bool false), (by kernel_rfl), HL184⟩⟩
                          · intro f255
                            have k255 := ne_of_beq_false f255
                            refine ax_val (v := .bool false) (.bool false) HB (by kernel_rfl) (by kernel_rfl) (rfl) ?_
                            refine ax_val (v := .bool false) (.bool false) HB (by kernel_rfl) (by kernel_rfl) (rfl) ?_
                            refine ax_pass  HB (by kernel_rfl) ?_
                            refine ax_pass  HB (by kernel_rfl) ?_
                            refine ax_pass  HB (by kernel_rfl) ?_
                            refine ax_pass  HB (by kernel_rfl) ?_
                            refine ax_pass  HB (by kernel_rfl) ?_
                            refine ax_pass  HB (by kernel_rfl) ?_
                            refine ax_pass  HB (by kernel_rfl) ?_
                            refine ax_pass  HB (by kernel_rfl) ?_
                            refine ax_pass  HB (by kernel_rfl) ?_
                            refine ax_pass  HB (by kernel_rfl) ?_
                            refine ax_pass  HB (by kernel_rfl) ?_
                            refine ax_pass  HB (by kernel_rfl) ?_
                            refine ax_val (v := .bool false) (.bool false) HB (by kernel_rfl) (by kernel_rfl) (rfl) ?_
                            refine ax_val (v := .bool false) (.bool false) HB (by kernel_rfl) (by kernel_rfl) (rfl) ?_
                            refine aw_nil ?_
                            refine aw_n_then ?_
                            refine ax_no HB (by kernel_rfl) ?_
                            refine aw_skip0 ?_
                            exact ⟨⟨rfl, (j2_141), (.int .i64 la.2), (.bool false), (.bool false), (undef), (undef), (.bool false), (.bool false), (undef), (undef), (undef), (undef), (undef), (undef), (undef), (undef), (undef), (undef), (undef), (undef), (.bool false), (.bool false), (.int .i64 pa.2), (.bool true), (.bool true), (.int .i64 py.2), (.bool false), (.bool false), (.bool false), (undef), (undef), (undef), (undef), (undef), (undef), (undef), (undef), (undef), (undef), (undef), (undef), (.bool false), (.bool false), (by kernel_rfl), HL184⟩⟩
                        · intro f253
                          have k253 := ne_of_beq_false f253
                          refine ax_val (v := .bool false) (.bool false) HB (by kernel_rfl) (by kernel_rfl) (rfl) ?_
                          refine ax_pass  HB (by kernel_rfl) ?_
                          refine ax_pass  HB (by kernel_rfl) ?_
                          refine ax_val (v := .bool false) (.bool false) HB (by kernel_rfl) (by kernel_rfl) (rfl) ?_
                          refine ax_val (v := .bool false) (.bool false) HB (by kernel_rfl) (by kernel_rfl) (rfl) ?_
                          refine ax_pass  HB (by kernel_rfl) ?_
                          refine ax_pass  HB (by kernel_rfl) ?_
                          refine ax_pass  HB (by kernel_rfl) ?_
                          refine ax_pass  HB (by kernel_rfl) ?_
                          refine ax_pass  HB (by kernel_rfl) ?_
                          refine ax_pass  HB (by kernel_rfl) ?_
                          refine ax_pass  HB (by kernel_rfl) ?_
                          refine ax_pass  HB (by kernel_rfl) ?_
                          refine ax_pass  HB (by kernel_rfl) ?_
                          refine ax_pass  HB (by kernel_rfl) ?_
                          refine ax_pass  HB (by kernel_rfl) ?_
                          refine ax_pass  HB (by kernel_rfl) ?_
                          refine ax_val (v := .bool false) (.bool false) HB (by kernel_rfl) (by kernel_rfl) (rfl) ?_
                          refine ax_val (v := .bool false) (.bool false) HB (by kernel_rfl) (by kernel_rfl) (rfl) ?_
                          refine aw_nil ?_
                          refine aw_n_then ?_
                          refine ax_no HB (by kernel_rfl) ?_
                          refine aw_skip0 ?_
                          exact ⟨⟨rfl, (j2_141), (.int .i64 la.2), (.bool false), (.bool false), (undef), (undef), (.bool false), (.bool false), (undef), (undef), (undef), (undef), (undef), (undef), (undef), (undef), (undef), (undef), (undef), (undef), (.bool false), (.bool false), (.int .i64 pa.2), (.bool false), (.bool false), (undef), (undef), (.bool false), (.bool false), (undef), (undef), (undef), (undef), (undef), (undef), (undef), (undef), (undef), (undef), (undef), (undef), (.bool false), (.bool false), (by kernel_rfl), HL184⟩⟩
                    · rintro _ _ w260 ⟨rfl, j2_185, j153_186, j154_187, j155_188, j156_189, j157_190, j158_191, j159_192, j160_193, j161_194, j162_195, j163_196, j164_197, j165_198, j166_199, j167_200, j168_201, j169_202, j170_203, j171_204, j172_205, j173_206, j174_207, j175_208, j176_209, j177_210, j178_211, j179_212, j180_213, j181_214, j182_215, j183_216, j184_217, j185_218, j186_219, j187_220, j188_221, j189_222, j190_223, j191_224, j192_225, j193_226, j194_227, rfl, HL261⟩
                      clear HL184
                      clear HB
                      have HB : Array.size (#[.agg #[.int .i64 k, .int .i64 B, .int .i64 T, .int .i64 M, .int .i64 C, .int .i64 x, .int .i64 y, .int .i64 t, .int .u16 b], .pointer (some ⟨g1, 0, none⟩), j2_185, .pointer (some ⟨cg6, 0, none⟩), .pointer (some ⟨cg9, 0, none⟩), .int .i64 t, .int .u16 b, .int .i64 (min (t + b) 50000), .pointer (some ⟨g84, 0, none⟩), .int .i64 la.2, .pointer (some ⟨g91, 0, none⟩), .int .i64 ly.2, .pointer (some ⟨g129, 0, none⟩), .int .i64 pa.2, .pointer (some ⟨g136, 0, none⟩), .int .i64 py.2, .pointer (some ⟨g172, 0, none⟩), undef, .pointer (some ⟨g1, 0, none⟩), .agg #[.int .i64 k, .int .i64 B, .int .i64 T, .int .i64 M, .int .i64 C], .pointer (some ⟨g1, 5, none⟩), .agg #[.int .i64 x, .int .i64 y], .pointer (some ⟨g1, 7, none⟩), .int .i64 t, .pointer (some ⟨g1, 8, none⟩), .int .u16 b, .int .i64 t, .bool false, .bool false, .int .i64 t, .bool false, .bool false, .bool false, .pointer (some ⟨cg9, 0, none⟩), .int .i64 x, .bool false, .bool false, .bool false, .pointer (some ⟨cg9, 1, none⟩), .int .i64 y, .bool false, .bool false, .bool false, .pointer (some ⟨cg9, 0, none⟩), .int .i64 x, .pointer (some ⟨cg9, 1, none⟩), .int .i64 y, .bool false, .bool false, .bool false, .agg #[.int .i64 k, .int .i64 B, .int .i64 T, .int .i64 M, .int .i64 C], .int .i64 (if bdB k B T M C = true then (0 : Int) else 2), .bool false, .bool false, undef, .int .i64 t, .int .u16 b, .int .i64 b, .int .i64 (t + b), .int .i64 (min (t + b) 50000), .tuple #[.agg #[.int .i64 la.1.1, .int .i64 la.1.2], .int .i64 la.2], .agg #[.int .i64 k, .int .i64 B, .int .i64 T, .int .i64 M, .int .i64 C], .agg #[.int .i64 x, .int .i64 y], .int .i64 t, .tuple #[.agg #[.int .i64 la.1.1, .int .i64 la.1.2], .int .i64 la.2], .agg #[.int .i64 la.1.1, .int .i64 la.1.2], .int .i64 la.2, .tuple #[.agg #[.int .i64 lw.1.1, .int .i64 lw.1.2], .int .i64 lw.2], .agg #[.int .i64 k, .int .i64 B, .int .i64 T, .int .i64 M, .int .i64 C], .agg #[.int .i64 x, .int .i64 y], .int .i64 (min (t + b) 50000), .tuple #[.agg #[.int .i64 lw.1.1, .int .i64 lw.1.2], .int .i64 lw.2], .agg #[.int .i64 lw.1.1, .int .i64 lw.1.2], .int .i64 lw.2, j74_97, j75_98, j76_99, j77_100, j78_101, j79_102, j80_103, j81_104, j82_105, j83_106, j84_107, j85_108, j86_109, j87_110, j88_111, j89_112, j90_113, j91_114, j92_115, j93_116, .tuple #[.agg #[.int .i64 pa.1.1, .int .i64 pa.1.2], .int .i64 pa.2], .agg #[.int .i64 k, .int .i64 B, .int .i64 T, .int .i64 M, .int .i64 C], .agg #[.int .i64 x, .int .i64 y], .int .i64 t, .tuple #[.agg #[.int .i64 pa.1.1, .int .i64 pa.1.2], .int .i64 pa.2], .agg #[.int .i64 pa.1.1, .int .i64 pa.1.2], .int .i64 pa.2, .tuple #[.agg #[.int .i64 pw.1.1, .int .i64 pw.1.2], .int .i64 pw.2], .agg #[.int .i64 k, .int .i64 B, .int .i64 T, .int .i64 M, .int .i64 C], .agg #[.int .i64 x, .int .i64 y], .int .i64 (min (t + b) 50000), .tuple #[.agg #[.int .i64 pw.1.1, .int .i64 pw.1.2], .int .i64 pw.2], .agg #[.int .i64 pw.1.1, .int .i64 pw.1.2], .int .i64 pw.2, j108_142, j109_143, j110_144, j111_145, j112_146, j113_147, j114_148, j115_149, j116_150, j117_151, j118_152, j119_153, j120_154, j121_155, j122_156, j123_157, j124_158, j125_159, j126_160, j127_161, .pointer (some ⟨cg9, 0, none⟩), .int .i64 x, .int .u16 b, .int .i64 b, .int .i64 (x + b), .pointer (some ⟨cg9, 1, none⟩), .int .i64 y, .int .u16 b, .int .i64 b, .int .i64 (y + b), .agg #[.int .i64 (x + b), .int .i64 (y + b)], .tuple #[.agg #[.int .i64 ly.1.1, .int .i64 ly.1.2], .int .i64 ly.2], .agg #[.int .i64 k, .int .i64 B, .int .i64 T, .int .i64 M, .int .i64 C], .agg #[.int .i64 (x + b), .int .i64 (y + b)], .int .i64 t, .tuple #[.agg #[.int .i64 ly.1.1, .int .i64 ly.1.2], .int .i64 ly.2], .agg #[.int .i64 ly.1.1, .int .i64 ly.1.2], .int .i64 ly.2, .tuple #[.agg #[.int .i64 py.1.1, .int .i64 py.1.2], .int .i64 py.2], .agg #[.int .i64 k, .int .i64 B, .int .i64 T, .int .i64 M, .int .i64 C], .agg #[.int .i64 (x + b), .int .i64 (y + b)], .int .i64 t, .tuple #[.agg #[.int .i64 py.1.1, .int .i64 py.1.2], .int .i64 py.2], .agg #[.int .i64 py.1.1, .int .i64 py.1.2], .int .i64 py.2, j153_186, j154_187, j155_188, j156_189, j157_190, j158_191, j159_192, j160_193, j161_194, j162_195, j163_196, j164_197, j165_198, j166_199, j167_200, j168_201, j169_202, j170_203, j171_204, j172_205, j173_206, j174_207, j175_208, j176_209, j177_210, j178_211, j179_212, j180_213, j181_214, j182_215, j183_216, j184_217, j185_218, j186_219, j187_220, j188_221, j189_222, j190_223, j191_224, j192_225, j193_226, j194_227, undef, undef, undef, undef, undef, undef, undef, undef, undef, undef, undef, undef, undef, undef, undef, undef, undef, undef, undef, undef, undef, undef, undef, undef, undef, undef, undef, undef, undef, undef, undef, undef, undef, undef, undef, undef, undef, undef, undef, undef, undef, undef, undef, undef, undef, undef, undef, undef, undef, undef, undef, undef] : Array Value) = 247 := by kernel_rfl
                      refine Boxw.out (ax_re ?_)
                      refine aw_n_then ?_
                      refine aw_seq ?_
                      refine aw_reg ?_
                      refine ax_val (v := .pointer (some ⟨cg9, 0, none⟩)) (.pointer (some ⟨cg9, 0, none⟩)) HB (by kernel_rfl) (by kernel_rfl) (rfl) ?_
                      refine ax_load 2 (.tmp 195) 5 cg9 0 55 [.int .i64 x, .int .i64 y] (.int .i64 x) _ HB HL261 (by kernel_rfl) rfl (by kernel_rfl) rfl rfl Tryd.underlying2 rfl ?_
                      refine ax_val (v := .pointer (some ⟨cg9, 1, none⟩)) (.pointer (some ⟨cg9, 1, none⟩)) HB (by kernel_rfl) (by kernel_rfl) (rfl) ?_
                      refine ax_load 2 (.tmp 197) 5 cg9 1 55 [.int .i64 x, .int .i64 y] (.int .i64 y) _ HB HL261 (by kernel_rfl) rfl (by kernel_rfl) rfl rfl Tryd.underlying2 rfl ?_
                      refine ax_val (v := .pointer (some ⟨cg9, 0, none⟩)) (.pointer (some ⟨cg9, 0, none⟩)) HB (by kernel_rfl) (by kernel_rfl) (rfl) ?_
                      refine ax_load 2 (.tmp 199) 5 cg9 0 55 [.int .i64 x, .int .i64 y] (.int .i64 x) _ HB HL261 (by kernel_rfl) rfl (by kernel_rfl) rfl rfl Tryd.underlying2 rfl ?_
                      refine ax_val (v := .int .i64 (IntKind.i64.wrap (y - x))) (.int .i64 (y - x)) HB (by kernel_rfl) (by kernel_rfl) (congrArg (Value.int .i64) (IntWalk.i64_in _ (by omega))) ?_
                      refine ax_val (v := .int .i64 (IntKind.i64.wrap ((y - x).tdiv 2))) (.int .i64 ((y - x) / 2)) HB (by kernel_rfl) (run_quo w260 2 _ (.tmp 201) (.const (.int .i64 2)) (y - x) 2 rfl (by kernel_rfl) (by kernel_rfl) (by omega) Tryd.underlying2) (congrArg (Value.int .i64) (quo_pos (by omega) (by omega) (by omega))) ?_
                      refine ax_val (v := .int .i64 (IntKind.i64.wrap (x + ((y - x) / 2)))) (.int .i64 (x + ((y - x) / 2))) HB (by kernel_rfl) (by kernel_rfl) (congrArg (Value.int .i64) (IntWalk.i64_in _ (by omega))) ?_
                      refine ax_val (v := .int .i64 (x + ((y - x) / 2))) (.int .i64 (x + ((y - x) / 2))) HB (by kernel_rfl) (by kernel_rfl) (rfl) ?_
                      refine aw_nil ?_
                      refine aw_n_then ?_
                      refine aw_seq ?_
                      refine ad_start [(g172, 55, [.int .i64 (x + b), .int .i64 (y + b)]), (g136, 55, [.int .i64 py.1.1, .int .i64 py.1.2]), (g129, 55, [.int .i64 pa.1.1, .int .i64 pa.1.2]), (g84, 55, [.int .i64 la.1.1, .int .i64 la.1.2]), (cg9, 55, [.int .i64 x, .int .i64 y]), (cg6, 64, [.int .i64 k, .int .i64 B, .int .i64 T, .int .i64 M, .int .i64 C]), (g1, 70, [.int .i64 k, .int .i64 B, .int .i64 T, .int .i64 M, .int .i64 C, .int .i64 x, .int .i64 y, .int .i64 t, .int .u16 b])] HL261 (by kernel_rfl) (List.Sublist.cons_cons _ (List.Sublist.cons_cons _ (List.Sublist.cons_cons _ (List.Sublist.cons _ (List.Sublist.cons_cons _ (List.Sublist.cons_cons _ (List.Sublist.cons_cons _ (List.Sublist.cons_cons _ List.Sublist.slnil)))))))) rfl ?_
                      intro w263 HL262
                      clear HL261
                      refine ay_mid 0 64 (.tmp 3) 5 cg6 0 64 [.int .i64 k, .int .i64 B, .int .i64 T, .int .i64 M, .int .i64 C] [.int .i64 k, .int .i64 B, .int .i64 T, .int .i64 M, .int .i64 C] _ HB rfl (by kernel_rfl) (by kernel_rfl) (by kernel_rfl) (fun _ _ _ h => h) (by kernel_rfl) rfl (by kernel_rfl) rfl rfl Tryd.underlying64 rfl (by kernel_rfl) ?_
                      refine ay_val (v := .int .i64 (x + ((y - x) / 2))) 1 (.int .i64 (x + ((y - x) / 2))) HB rfl (by kernel_rfl) (by kernel_rfl) (by kernel_rfl) (fun _ _ _ h => h) (by kernel_rfl) (fun _ _ => by kernel_rfl) (rfl) ?_
                      refine ay_call 2 38 #[.int .i64 (x + ((y - x) / 2))] (.agg #[.int .i64 (x + ((y - x) / 2)), .int .i64 (x + ((y - x) / 2))]) HB rfl (by kernel_rfl) (by kernel_rfl) (by kernel_rfl) (fun _ _ _ h => h) (by kernel_rfl) (fun _ => by kernel_rfl) (fun u hu => number8_any (x + ((y - x) / 2)) u) ?_
                      refine ay_val (v := .int .i64 t) 3 (.int .i64 t) HB rfl (by kernel_rfl) (by kernel_rfl) (by kernel_rfl) (fun _ _ _ h => h) (by kernel_rfl) (fun _ _ => by kernel_rfl) (rfl) ?_
                      refine ay_call 4 33 #[.agg #[.int .i64 k, .int .i64 B, .int .i64 T, .int .i64 M, .int .i64 C], .agg #[.int .i64 (x + ((y - x) / 2)), .int .i64 (x + ((y - x) / 2))], .int .i64 t] (.tuple #[.agg #[.int .i64 lm.1.1, .int .i64 lm.1.2], .int .i64 lm.2]) HB rfl (by kernel_rfl) (by kernel_rfl) (by kernel_rfl) (fun _ _ _ h => h) (by kernel_rfl) (fun _ => by kernel_rfl) (fun u hu => (by have h0 := Length_any k B T M C (x + ((y - x) / 2)) (x + ((y - x) / 2)) t u (hkd.loc hu) ⟨by unfold I64; omega, by unfold I64; omega⟩; rw [hlm] at h0; exact h0)) ?_
                      refine ay_val (v := .tuple #[.agg #[.int .i64 lm.1.1, .int .i64 lm.1.2], .int .i64 lm.2]) 5 (.tuple #[.agg #[.int .i64 lm.1.1, .int .i64 lm.1.2], .int .i64 lm.2]) HB rfl (by kernel_rfl) (by kernel_rfl) (by kernel_rfl) (fun _ _ _ h => h) (by kernel_rfl) (fun _ _ => by kernel_rfl) (rfl) ?_
                      refine ay_val (v := .agg #[.int .i64 lm.1.1, .int .i64 lm.1.2]) 6 (.agg #[.int .i64 lm.1.1, .int .i64 lm.1.2]) HB rfl (by kernel_rfl) (by kernel_rfl) (by kernel_rfl) (fun _ _ _ h => h) (by kernel_rfl) (fun _ _ => by kernel_rfl) (rfl) ?_
                      refine ay_val (v := .int .i64 lm.2) 7 (.int .i64 lm.2) HB rfl (by kernel_rfl) (by kernel_rfl) (by kernel_rfl) (fun _ _ _ h => h) (by kernel_rfl) (fun _ _ => by kernel_rfl) (rfl) ?_
                      refine ad_one 8 HL262 (by kernel_rfl) (bs_store 55 (.tmp 10) (.tmp 210) 3 g91 0 55 [.int .i64 ly.1.1, .int .i64 ly.1.2] [.int .i64 lm.1.1, .int .i64 lm.1.2] [.int .i64 lm.1.1, .int .i64 lm.1.2] [(g172, 55, [.int .i64 (x + b), .int .i64 (y + b)]), (g136, 55, [.int .i64 py.1.1, .int .i64 py.1.2]), (g129, 55, [.int .i64 pa.1.1, .int .i64 pa.1.2]), (g91, 55, [.int .i64 lm.1.1, .int .i64 lm.1.2]), (g84, 55, [.int .i64 la.1.1, .int .i64 la.1.2]), (cg9, 55, [.int .i64 x, .int .i64 y]), (cg6, 64, [.int .i64 k, .int .i64 B, .int .i64 T, .int .i64 M, .int .i64 C]), (g1, 70, [.int .i64 k, .int .i64 B, .int .i64 T, .int .i64 M, .int .i64 C, .int .i64 x, .int .i64 y, .int .i64 t, .int .u16 b])] HB rfl (by kernel_rfl) rfl (by kernel_rfl) (by kernel_rfl) rfl (by kernel_rfl) (by kernel_rfl) (Nat.le_of_ble_eq_true rfl) rfl rfl (List.Sublist.cons_cons _ (List.Sublist.cons_cons _ (List.Sublist.cons_cons _ (List.Sublist.cons _ (List.Sublist.cons_cons _ (List.Sublist.cons_cons _ (List.Sublist.cons_cons _ (List.Sublist.cons_cons _ List.Sublist.slnil)))))))) ?_)
                      intro w268 HL269
                      clear HL262
                      refine ay_val (v := .int .i64 lm.2) 9 (.int .i64 lm.2) HB rfl (by kernel_rfl) (by kernel_rfl) (by kernel_rfl) (fun _ _ _ h => h) (by kernel_rfl) (fun _ _ => by kernel_rfl) (rfl) ?_
                      refine ad_done HL269 (by kernel_rfl) (fun w271 HL270 => ?_)
                      clear HL269
                      refine aw_n_then ?_
                      refine aw_seq ?_
                      refine ad_start [(g172, 55, [.int .i64 (x + b), .int .i64 (y + b)]), (g129, 55, [.int .i64 pa.1.1, .int .i64 pa.1.2]), (g91, 55, [.int .i64 lm.1.1, .int .i64 lm.1.2]), (g84, 55, [.int .i64 la.1.1, .int .i64 la.1.2]), (cg9, 55, [.int .i64 x, .int .i64 y]), (cg6, 64, [.int .i64 k, .int .i64 B, .int .i64 T, .int .i64 M, .int .i64 C]), (g1, 70, [.int .i64 k, .int .i64 B, .int .i64 T, .int .i64 M, .int .i64 C, .int .i64 x, .int .i64 y, .int .i64 t, .int .u16 b])] HL270 (by kernel_rfl) (List.Sublist.cons_cons _ (List.Sublist.cons _ (List.Sublist.cons_cons _ (List.Sublist.cons_cons _ (List.Sublist.cons_cons _ (List.Sublist.cons_cons _ (List.Sublist.cons_cons _ (List.Sublist.cons_cons _ List.Sublist.slnil)))))))) rfl ?_
                      intro w273 HL272
                      clear HL270
                      refine ay_mid 0 64 (.tmp 3) 5 cg6 0 64 [.int .i64 k, .int .i64 B, .int .i64 T, .int .i64 M, .int .i64 C] [.int .i64 k, .int .i64 B, .int .i64 T, .int .i64 M, .int .i64 C] _ HB rfl (by kernel_rfl) (by kernel_rfl) (by kernel_rfl) (fun _ _ _ h => h) (by kernel_rfl) rfl (by kernel_rfl) rfl rfl Tryd.underlying64 rfl (by kernel_rfl) ?_
                      refine ay_val (v := .int .i64 (x + ((y - x) / 2))) 1 (.int .i64 (x + ((y - x) / 2))) HB rfl (by kernel_rfl) (by kernel_rfl) (by kernel_rfl) (fun _ _ _ h => h) (by kernel_rfl) (fun _ _ => by kernel_rfl) (rfl) ?_
                      refine ay_call 2 38 #[.int .i64 (x + ((y - x) / 2))] (.agg #[.int .i64 (x + ((y - x) / 2)), .int .i64 (x + ((y - x) / 2))]) HB rfl (by kernel_rfl) (by kernel_rfl) (by kernel_rfl) (fun _ _ _ h => h) (by kernel_rfl) (fun _ => by kernel_rfl) (fun u hu => number8_any (x + ((y - x) / 2)) u) ?_
                      refine ay_val (v := .int .i64 t) 3 (.int .i64 t) HB rfl (by kernel_rfl) (by kernel_rfl) (by kernel_rfl) (fun _ _ _ h => h) (by kernel_rfl) (fun _ _ => by kernel_rfl) (rfl) ?_
                      refine ay_call 4 34 #[.agg #[.int .i64 k, .int .i64 B, .int .i64 T, .int .i64 M, .int .i64 C], .agg #[.int .i64 (x + ((y - x) / 2)), .int .i64 (x + ((y - x) / 2))], .int .i64 t] (.tuple #[.agg #[.int .i64 pm.1.1, .int .i64 pm.1.2], .int .i64 pm.2]) HB rfl (by kernel_rfl) (by kernel_rfl) (by kernel_rfl) (fun _ _ _ h => h) (by kernel_rfl) (fun _ => by kernel_rfl) (fun u hu => (by have h0 := Pitch_any k B T M C (x + ((y - x) / 2)) (x + ((y - x) / 2)) t u (hkd.loc hu) ⟨by unfold I64; omega, by unfold I64; omega⟩; rw [hpm] at h0; exact h0)) ?_
                      refine ay_val (v := .tuple #[.agg #[.int .i64 pm.1.1, .int .i64 pm.1.2], .int .i64 pm.2]) 5 (.tuple #[.agg #[.int .i64 pm.1.1, .int .i64 pm.1.2], .int .i64 pm.2]) HB rfl (by kernel_rfl) (by kernel_rfl) (by kernel_rfl) (fun _ _ _ h => h) (by kernel_rfl) (fun _ _ => by kernel_rfl) (rfl) ?_
                      refine ay_val (v := .agg #[.int .i64 pm.1.1, .int .i64 pm.1.2]) 6 (.agg #[.int .i64 pm.1.1, .int .i64 pm.1.2]) HB rfl (by kernel_rfl) (by kernel_rfl) (by kernel_rfl) (fun _ _ _ h => h) (by kernel_rfl) (fun _ _ => by kernel_rfl) (rfl) ?_
                      refine ay_val (v := .int .i64 pm.2) 7 (.int .i64 pm.2) HB rfl (by kernel_rfl) (by kernel_rfl) (by kernel_rfl) (fun _ _ _ h => h) (by kernel_rfl) (fun _ _ => by kernel_rfl) (rfl) ?_
                      refine ad_one 8 HL272 (by kernel_rfl) (bs_store 55 (.tmp 14) (.tmp 218) 1 g136 0 55 [.int .i64 py.1.1, .int .i64 py.1.2] [.int .i64 pm.1.1, .int .i64 pm.1.2] [.int .i64 pm.1.1, .int .i64 pm.1.2] [(g172, 55, [.int .i64 (x + b), .int .i64 (y + b)]), (g136, 55, [.int .i64 pm.1.1, .int .i64 pm.1.2]), (g129, 55, [.int .i64 pa.1.1, .int .i64 pa.1.2]), (g91, 55, [.int .i64 lm.1.1, .int .i64 lm.1.2]), (g84, 55, [.int .i64 la.1.1, .int .i64 la.1.2]), (cg9, 55, [.int .i64 x, .int .i64 y]), (cg6, 64, [.int .i64 k, .int .i64 B, .int .i64 T, .int .i64 M, .int .i64 C]), (g1, 70, [.int .i64 k, .int .i64 B, .int .i64 T, .int .i64 M, .int .i64 C, .int .i64 x, .int .i64 y, .int .i64 t, .int .u16 b])] HB rfl (by kernel_rfl) rfl (by kernel_rfl) (by kernel_rfl) rfl (by kernel_rfl) (by kernel_rfl) (Nat.le_of_ble_eq_true rfl) rfl rfl (List.Sublist.cons_cons _ (List.Sublist.cons _ (List.Sublist.cons_cons _ (List.Sublist.cons_cons _ (List.Sublist.cons_cons _ (List.Sublist.cons_cons _ (List.Sublist.cons_cons _ (List.Sublist.cons_cons _ List.Sublist.slnil)))))))) ?_)
                      intro w278 HL279
                      clear HL272
                      refine ay_val (v := .int .i64 pm.2) 9 (.int .i64 pm.2) HB rfl (by kernel_rfl) (by kernel_rfl) (by kernel_rfl) (fun _ _ _ h => h) (by kernel_rfl) (fun _ _ => by kernel_rfl) (rfl) ?_
                      refine ad_done HL279 (by kernel_rfl) (fun w281 HL280 => ?_)
                      clear HL279
                      refine aw_n_then ?_
                      refine aw_seq ?_
                      refine aw_cut (fun eX bX uX => eX = .normal ∧ ∃ (j2_282 : Value) (j220_283 : Value) (j221_284 : Value) (j222_285 : Value) (j223_286 : Value) (j224_287 : Value) (j225_288 : Value) (j226_289 : Value) (j227_290 : Value) (j228_291 : Value) (j229_292 : Value) (j230_293 : Value) (j231_294 : Value) (j232_295 : Value) (j233_296 : Value) (j234_297 : Value) (j235_298 : Value) (j236_299 : Value) (j237_300 : Value) (j238_301 : Value) (j239_302 : Value) (j240_303 : Value) (j241_304 : Value) (j242_305 : Value) (j243_306 : Value) (j244_307 : Value) (j245_308 : Value), bX = ⟨#[.agg #[.int .i64 k, .int .i64 B, .int .i64 T, .int .i64 M, .int .i64 C, .int .i64 x, .int .i64 y, .int .i64 t, .int .u16 b], .pointer (some ⟨g1, 0, none⟩), j2_282, .pointer (some ⟨cg6, 0, none⟩), .pointer (some ⟨cg9, 0, none⟩), .int .i64 t, .int .u16 b, .int .i64 (min (t + b) 50000), .pointer (some ⟨g84, 0, none⟩), .int .i64 la.2, .pointer (some ⟨g91, 0, none⟩), .int .i64 lm.2, .pointer (some ⟨g129, 0, none⟩), .int .i64 pa.2, .pointer (some ⟨g136, 0, none⟩), .int .i64 pm.2, .pointer (some ⟨g172, 0, none⟩), .int .i64 (x + ((y - x) / 2)), .pointer (some ⟨g1, 0, none⟩), .agg #[.int .i64 k, .int .i64 B, .int .i64 T, .int .i64 M, .int .i64 C], .pointer (some ⟨g1, 5, none⟩), .agg #[.int .i64 x, .int .i64 y], .pointer (some ⟨g1, 7, none⟩), .int .i64 t, .pointer (some ⟨g1, 8, none⟩), .int .u16 b, .int .i64 t, .bool false, .bool false, .int .i64 t, .bool false, .bool false, .bool false, .pointer (some ⟨cg9, 0, none⟩), .int .i64 x, .bool false, .bool false, .bool false, .pointer (some ⟨cg9, 1, none⟩), .int .i64 y, .bool false, .bool false, .bool false, .pointer (some ⟨cg9, 0, none⟩), .int .i64 x, .pointer (some ⟨cg9, 1, none⟩), .int .i64 y, .bool false, .bool false, .bool false, .agg #[.int .i64 k, .int .i64 B, .int .i64 T, .int .i64 M, .int .i64 C], .int .i64 (if bdB k B T M C = true then (0 : Int) else 2), .bool false, .bool false, undef, .int .i64 t, .int .u16 b, .int .i64 b, .int .i64 (t + b), .int .i64 (min (t + b) 50000), .tuple #[.agg #[.int .i64 la.1.1, .int .i64 la.1.2], .int .i64 la.2], .agg #[.int .i64 k, .int .i64 B, .int .i64 T, .int .i64 M, .int .i64 C], .agg #[.int .i64 x, .int .i64 y], .int .i64 t, .tuple #[.agg #[.int .i64 la.1.1, .int .i64 la.1.2], .int .i64 la.2], .agg #[.int .i64 la.1.1, .int .i64 la.1.2], .int .i64 la.2, .tuple #[.agg #[.int .i64 lw.1.1, .int .i64 lw.1.2], .int .i64 lw.2], .agg #[.int .i64 k, .int .i64 B, .int .i64 T, .int .i64 M, .int .i64 C], .agg #[.int .i64 x, .int .i64 y], .int .i64 (min (t + b) 50000), .tuple #[.agg #[.int .i64 lw.1.1, .int .i64 lw.1.2], .int .i64 lw.2], .agg #[.int .i64 lw.1.1, .int .i64 lw.1.2], .int .i64 lw.2, j74_97, j75_98, j76_99, j77_100, j78_101, j79_102, j80_103, j81_104, j82_105, j83_106, j84_107, j85_108, j86_109, j87_110, j88_111, j89_112, j90_113, j91_114, j92_115, j93_116, .tuple #[.agg #[.int .i64 pa.1.1, .int .i64 pa.1.2], .int .i64 pa.2], .agg #[.int .i64 k, .int .i64 B, .int .i64 T, .int .i64 M, .int .i64 C], .agg #[.int .i64 x, .int .i64 y], .int .i64 t, .tuple #[.agg #[.int .i64 pa.1.1, .int .i64 pa.1.2], .int .i64 pa.2], .agg #[.int .i64 pa.1.1, .int .i64 pa.1.2], .int .i64 pa.2, .tuple #[.agg #[.int .i64 pw.1.1, .int .i64 pw.1.2], .int .i64 pw.2], .agg #[.int .i64 k, .int .i64 B, .int .i64 T, .int .i64 M, .int .i64 C], .agg #[.int .i64 x, .int .i64 y], .int .i64 (min (t + b) 50000), .tuple #[.agg #[.int .i64 pw.1.1, .int .i64 pw.1.2], .int .i64 pw.2], .agg #[.int .i64 pw.1.1, .int .i64 pw.1.2], .int .i64 pw.2, j108_142, j109_143, j110_144, j111_145, j112_146, j113_147, j114_148, j115_149, j116_150, j117_151, j118_152, j119_153, j120_154, j121_155, j122_156, j123_157, j124_158, j125_159, j126_160, j127_161, .pointer (some ⟨cg9, 0, none⟩), .int .i64 x, .int .u16 b, .int .i64 b, .int .i64 (x + b), .pointer (some ⟨cg9, 1, none⟩), .int .i64 y, .int .u16 b, .int .i64 b, .int .i64 (y + b), .agg #[.int .i64 (x + b), .int .i64 (y + b)], .tuple #[.agg #[.int .i64 ly.1.1, .int .i64 ly.1.2], .int .i64 ly.2], .agg #[.int .i64 k, .int .i64 B, .int .i64 T, .int .i64 M, .int .i64 C], .agg #[.int .i64 (x + b), .int .i64 (y + b)], .int .i64 t, .tuple #[.agg #[.int .i64 ly.1.1, .int .i64 ly.1.2], .int .i64 ly.2], .agg #[.int .i64 ly.1.1, .int .i64 ly.1.2], .int .i64 ly.2, .tuple #[.agg #[.int .i64 py.1.1, .int .i64 py.1.2], .int .i64 py.2], .agg #[.int .i64 k, .int .i64 B, .int .i64 T, .int .i64 M, .int .i64 C], .agg #[.int .i64 (x + b), .int .i64 (y + b)], .int .i64 t, .tuple #[.agg #[.int .i64 py.1.1, .int .i64 py.1.2], .int .i64 py.2], .agg #[.int .i64 py.1.1, .int .i64 py.1.2], .int .i64 py.2, j153_186, j154_187, j155_188, j156_189, j157_190, j158_191, j159_192, j160_193, j161_194, j162_195, j163_196, j164_197, j165_198, j166_199, j167_200, j168_201, j169_202, j170_203, j171_204, j172_205, j173_206, j174_207, j175_208, j176_209, j177_210, j178_211, j179_212, j180_213, j181_214, j182_215, j183_216, j184_217, j185_218, j186_219, j187_220, j188_221, j189_222, j190_223, j191_224, j192_225, j193_226, j194_227, .pointer (some ⟨cg9, 0, none⟩), .int .i64 x, .pointer (some ⟨cg9, 1, none⟩), .int .i64 y, .pointer (some ⟨cg9, 0, none⟩), .int .i64 x, .int .i64 (y - x), .int .i64 ((y - x) / 2), .int .i64 (x + ((y - x) / 2)), .tuple #[.agg #[.int .i64 lm.1.1, .int .i64 lm.1.2], .int .i64 lm.2], .agg #[.int .i64 k, .int .i64 B, .int .i64 T, .int .i64 M, .int .i64 C], .int .i64 (x + ((y - x) / 2)), .agg #[.int .i64 (x + ((y - x) / 2)), .int .i64 (x + ((y - x) / 2))], .int .i64 t, .tuple #[.agg #[.int .i64 lm.1.1, .int .i64 lm.1.2], .int .i64 lm.2], .agg #[.int .i64 lm.1.1, .int .i64 lm.1.2], .int .i64 lm.2, .tuple #[.agg #[.int .i64 pm.1.1, .int .i64 pm.1.2], .int .i64 pm.2], .agg #[.int .i64 k, .int .i64 B, .int .i64 T, .int .i64 M, .int .i64 C], .int .i64 (x + ((y - x) / 2)), .agg #[.int .i64 (x + ((y - x) / 2)), .int .i64 (x + ((y - x) / 2))], .int .i64 t, .tuple #[.agg #[.int .i64 pm.1.1, .int .i64 pm.1.2], .int .i64 pm.2], .agg #[.int .i64 pm.1.1, .int .i64 pm.1.2], .int .i64 pm.2, j220_283, j221_284, j222_285, j223_286, j224_287, j225_288, j226_289, j227_290, j228_291, j229_292, j230_293, j231_294, j232_295, j233_296, j234_297, j235_298, j236_299, j237_300, j238_301, j239_302, j240_303, j241_304, j242_305, j243_306, j244_307, j245_308, undef], []⟩ ∧ Loc w [(g172, 55, [.int .i64 (x + b), .int .i64 (y + b)]), (g136, 55, [.int .i64 pm.1.1, .int .i64 pm.1.2]), (g129, 55, [.int .i64 pa.1.1, .int .i64 pa.1.2]), (g91, 55, [.int .i64 lm.1.1, .int .i64 lm.1.2]), (g84, 55, [.int .i64 la.1.1, .int .i64 la.1.2]), (cg9, 55, [.int .i64 x, .int .i64 y]), (cg6, 64, [.int .i64 k, .int .i64 B, .int .i64 T, .int .i64 M, .int .i64 C]), (g1, 70, [.int .i64 k, .int .i64 B, .int .i64 T, .int .i64 M, .int .i64 C, .int .i64 x, .int .i64 y, .int .i64 t, .int .u16 b])] uX) ?_ ?_
                      · skip
                        refine aw_seq ?_
                        refine aw_reg ?_
                        refine ax_val (v := .int .i64 la.2) (.int .i64 la.2) HB (by kernel_rfl) (by kernel_rfl) (rfl) ?_
                        refine ax_fork (la.2 == 0) HB (by kernel_rfl) (by kernel_rfl) ?_ ?_
                        · intro f309
                          have k309 := eq_of_beq f309
                          refine ax_val (v := .bool true) (.bool true) HB (by kernel_rfl) (by kernel_rfl) (rfl) ?_
                          refine ax_val (v := .int .i64 lm.2) (.int .i64 lm.2) HB (by kernel_rfl) (by kernel_rfl) (rfl) ?_
                          refine ax_fork (lm.2 != 0) HB (by kernel_rfl) (by kernel_rfl) ?_ ?_
                          · intro f311
                            have k311 := aw_neq_t f311
                            refine ax_val (v := .bool true) (.bool true) HB (by kernel_rfl) (by kernel_rfl) (rfl) ?_
                            refine ax_pass  HB (by kernel_rfl) ?_
                            refine ax_pass  HB (by kernel_rfl) ?_
                            refine ax_pass  HB (by kernel_rfl) ?_
                            refine ax_pass  HB (by kernel_rfl) ?_
                            refine ax_val (v := .bool true) (.bool true) HB (by kernel_rfl) (by kernel_rfl) (rfl) ?_
                            refine ax_val (v := .bool true) (.bool true) HB (by kernel_rfl) (by kernel_rfl) (rfl) ?_
                            refine ax_val (v := .bool true) (.bool true) HB (by kernel_rfl) (by kernel_rfl) (rfl) ?_
                            refine ax_pass  HB (by kernel_rfl) ?_
                            refine ax_pass  HB (by kernel_rfl) ?_
                            refine ax_pass  HB (by kernel_rfl) ?_
                            refine ax_pass  HB (by kernel_rfl) ?_
                            refine ax_pass  HB (by kernel_rfl) ?_
                            refine ax_pass  HB (by kernel_rfl) ?_
                            refine ax_pass  HB (by kernel_rfl) ?_
                            refine ax_pass  HB (by kernel_rfl) ?_
                            refine ax_pass  HB (by kernel_rfl) ?_
                            refine ax_pass  HB (by kernel_rfl) ?_
                            refine ax_pass  HB (by kernel_rfl) ?_
                            refine ax_pass  HB (by kernel_rfl) ?_
                            refine ax_val (v := .bool true) (.bool true) HB (by kernel_rfl) (by kernel_rfl) (rfl) ?_
                            refine aw_nil ?_
                            refine aw_n_then ?_
                            refine ax_yes HB (by kernel_rfl) ?_
                            refine aw_seq ?_
                            refine aw_reg ?_
                            refine ax_val (v := .bool false) (.bool false) HB (by kernel_rfl) (by kernel_rfl) (rfl) ?_
                            refine aw_nil ?_
                            refine aw_n_then ?_
                            refine aw_ret ?_
                            exfalso
                            have R5 := HR5.out
                            have R6 := HR6.out
                            omega
                          · intro f312
                            have k312 := aw_neq_f f312
                            refine ax_val (v := .bool false) (.bool false) HB (by kernel_rfl) (by kernel_rfl) (rfl) ?_
                            refine ax_mid 55 (.tmp 10) 3 g91 0 55 [.int .i64 lm.1.1, .int .i64 lm.1.2] [.int .i64 lm.1.1, .int .i64 lm.1.2] _ HB HL280 (by kernel_rfl) rfl (by kernel_rfl) rfl rfl Tryd.underlying55 rfl (by kernel_rfl) ?_
                            refine ax_mid 55 (.tmp 8) 4 g84 0 55 [.int .i64 la.1.1, .int .i64 la.1.2] [.int .i64 la.1.1, .int .i64 la.1.2] _ HB HL280 (by kernel_rfl) rfl (by kernel_rfl) rfl rfl Tryd.underlying55 rfl (by kernel_rfl) ?_
                            refine ax_callb 35 #[.agg #[.int .i64 lm.1.1, .int .i64 lm.1.2], .agg #[.int .i64 la.1.1, .int .i64 la.1.2]] (winB lm.1.1 lm.1.2 la.1.1 la.1.2) HB HL280 (by kernel_rfl) (by kernel_rfl) (within8_any lm.1.1 lm.1.2 la.1.1 la.1.2 w281) ?_ ?_
                            · intro f315 w313 HL314
                              clear HL280
                              have k315 := winB_iff.1 f315
                              refine ax_val (v := .bool false) (.bool false) HB (by kernel_rfl) (by kernel_rfl) (rfl) ?_
                              refine ax_val (v := .bool false) (.bool false) HB (by kernel_rfl) (by kernel_rfl) (rfl) ?_
                              refine ax_val (v := .bool false) (.bool false) HB (by kernel_rfl) (by kernel_rfl) (rfl) ?_
                              refine ax_val (v := .bool false) (.bool false) HB (by kernel_rfl) (by kernel_rfl) (rfl) ?_
                              refine ax_val (v := .int .i64 pa.2) (.int .i64 pa.2) HB (by kernel_rfl) (by kernel_rfl) (rfl) ?_
                              refine ax_fork (pa.2 == 0) HB (by kernel_rfl) (by kernel_rfl) ?_ ?_
                              · intro f317
                                have k317 := eq_of_beq f317
                                refine ax_val (v := .bool true) (.bool true) HB (by kernel_rfl) (by kernel_rfl) (rfl) ?_
                                refine ax_val (v := .int .i64 pm.2) (.int .i64 pm.2) HB (by kernel_rfl) (by kernel_rfl) (rfl) ?_
                                refine ax_fork (pm.2 != 0) HB (by kernel_rfl) (by kernel_rfl) ?_ ?_
                                · intro f319
                                  have k319 := aw_neq_t f319
                                  refine ax_val (v := .bool true) (.bool true) HB (by kernel_rfl) (by kernel_rfl) (rfl) ?_
                                  refine ax_pass  HB (by kernel_rfl) ?_
                                  refine ax_pass  HB (by kernel_rfl) ?_
                                  refine ax_pass  HB (by kernel_rfl) ?_
                                  refine ax_pass  HB (by kernel_rfl) ?_
                                  refine ax_val (v := .bool true) (.bool true) HB (by kernel_rfl) (by kernel_rfl) (rfl) ?_
                                  refine ax_val (v := .bool true) (.bool true) HB (by kernel_rfl) (by kernel_rfl) (rfl) ?_
                                  refine ax_val (v := .bool true) (.bool true) HB (by kernel_rfl) (by kernel_rfl) (rfl) ?_
                                  refine aw_nil ?_
                                  refine aw_n_then ?_
                                  refine ax_yes HB (by kernel_rfl) ?_
                                  refine aw_seq ?_
                                  refine aw_reg ?_
                                  refine ax_val (v := .bool false) (.bool false) HB (by kernel_rfl) (by kernel_rfl) (rfl) ?_
                                  refine aw_nil ?_
                                  refine aw_n_then ?_
                                  refine aw_ret ?_
                                  exfalso
                                  have R5 := HR5.out
                                  have R6 := HR6.out
                                  omega
                                · intro f320
                                  have k320 := aw_neq_f f320
                                  refine ax_val (v := .bool false) (.bool false) HB (by kernel_rfl) (by kernel_rfl) (rfl) ?_
                                  refine ax_mid 55 (.tmp 14) 1 g136 0 55 [.int .i64 pm.1.1, .int .i64 pm.1.2] [.int .i64 pm.1.1, .int .i64 pm.1.2] _ HB HL314 (by kernel_rfl) rfl (by kernel_rfl) rfl rfl Tryd.underlying55 rfl (by kernel_rfl) ?_
                                  refine ax_mid 55 (.tmp 12) 2 g129 0 55 [.int .i64 pa.1.1, .int .i64 pa.1.2] [.int .i64 pa.1.1, .int .i64 pa.1.2] _ HB HL314 (by kernel_rfl) rfl (by kernel_rfl) rfl rfl Tryd.underlying55 rfl (by kernel_rfl) ?_
                                  refine ax_callb 35 #[.agg #[.int .i64 pm.1.1, .int .i64 pm.1.2], .agg #[.int .i64 pa.1.1, .int .i64 pa.1.2]] (winB pm.1.1 pm.1.2 pa.1.1 pa.1.2) HB HL314 (by kernel_rfl) (by kernel_rfl) (within8_any pm.1.1 pm.1.2 pa.1.1 pa.1.2 w313) ?_ ?_
                                  · intro f323 w321 HL322
                                    clear HL314
                                    have k323 := winB_iff.1 f323
                                    refine ax_val (v := .bool false) (.bool false) HB (by kernel_rfl) (by kernel_rfl) (rfl) ?_
                                    refine ax_val (v := .bool false) (.bool false) HB (by kernel_rfl) (by kernel_rfl) (rfl) ?_
                                    refine ax_val (v := .bool false) (.bool false) HB (by kernel_rfl) (by kernel_rfl) (rfl) ?_
                                    refine ax_val (v := .bool false) (.bool false) HB (by kernel_rfl) (by kernel_rfl) (rfl) ?_
                                    refine aw_nil ?_
                                    refine aw_n_then ?_
                                    refine ax_no HB (by kernel_rfl) ?_
                                    refine aw_skip0 ?_
                                    exact ⟨⟨rfl, (j2_185), (.int .i64 la.2), (.bool true), (.bool true), (.int .i64 lm.2), (.bool false), (.bool false), (.agg #[.int .i64 lm.1.1, .int .i64 lm.1.2]), (.agg #[.int .i64 la.1.1, .int .i64 la.1.2]), (.bool true), (.bool false), (.bool false), (.bool false), (.bool false), (.int .i64 pa.2), (.bool true), (.bool true), (.int .i64 pm.2), (.bool false), (.bool false), (.agg #[.int .i64 pm.1.1, .int .i64 pm.1.2]), (.agg #[.int .i64 pa.1.1, .int .i64 pa.1.2]), (.bool true), (.bool false), (.bool false), (.bool false), (.bool false), (by kernel_rfl), HL322⟩⟩
                                  · intro f324 w321 HL322
                                    clear HL314
                                    have k324 := winB_no f324
                                    refine ax_val (v := .bool true) (.bool true) HB (by kernel_rfl) (by kernel_rfl) (rfl) ?_
                                    refine ax_val (v := .bool true) (.bool true) HB (by kernel_rfl) (by kernel_rfl) (rfl) ?_
                                    refine ax_val (v := .bool true) (.bool true) HB (by kernel_rfl) (by kernel_rfl) (rfl) ?_
                                    refine ax_val (v := .bool true) (.bool true) HB (by kernel_rfl) (by kernel_rfl) (rfl) ?_
                                    refine aw_nil ?_
                                    refine aw_n_then ?_
                                    refine ax_yes HB (by kernel_rfl) ?_
                                    refine aw_seq ?_
                                    refine aw_reg ?_
                                    refine ax_val (v := .bool false) (.bool false) HB (by kernel_rfl) (by kernel_rfl) (rfl) ?_
                                    refine aw_nil ?_
                                    refine aw_n_then ?_
                                    refine aw_ret ?_
                                    exfalso
                                    have R5 := HR5.out
                                    have R6 := HR6.out
                                    omega
                              · intro f318
                                have k318 := ne_of_beq_false f318
                                refine ax_val (v := .bool false) (.bool false) HB (by kernel_rfl) (by kernel_rfl) (rfl) ?_
                                refine ax_pass  HB (by kernel_rfl) ?_
                                refine ax_pass  HB (by kernel_rfl) ?_
                                refine ax_pass  HB (by kernel_rfl) ?_
                                refine ax_pass  HB (by kernel_rfl) ?_
                                refine ax_pass  HB (by kernel_rfl) ?_
                                refine ax_pass  HB (by kernel_rfl) ?_
                                refine ax_pass  HB (by kernel_rfl) ?_
                                refine ax_pass  HB (by kernel_rfl) ?_
                                refine ax_val (v := .bool false) (.bool false) HB (by kernel_rfl) (by kernel_rfl) (rfl) ?_
                                refine ax_val (v := .bool false) (.bool false) HB (by kernel_rfl) (by kernel_rfl) (rfl) ?_
                                refine aw_nil ?_
                                refine aw_n_then ?_
                                refine ax_no HB (by kernel_rfl) ?_
                                refine aw_skip0 ?_
                                exact ⟨⟨rfl, (j2_185), (.int .i64 la.2), (.bool true), (.bool true), (.int .i64 lm.2), (.bool false), (.bool false), (.agg #[.int .i64 lm.1.1, .int .i64 lm.1.2]), (.agg #[.int .i64 la.1.1, .int .i64 la.1.2]), (.bool true), (.bool false), (.bool false), (.bool false), (.bool false), (.int .i64 pa.2), (.bool false), (.bool false), (undef), (undef), (undef), (undef), (undef), (undef), (undef), (undef), (.bool false), (.bool false), (by kernel_rfl), HL314⟩⟩
                            · intro f316 w313 HL314
                              clear HL280
                              have k316 := winB_no f316
                              refine ax_val (v := .bool true) (.bool true) HB (by kernel_rfl) (by kernel_rfl) (rfl) ?_
                              refine ax_val (v := .bool true) (.bool true) HB (by kernel_rfl) (by kernel_rfl) (rfl) ?_
                              refine ax_val (v := .bool true) (.bool true) HB (by kernel_rfl) (by kernel_rfl) (rfl) ?_
                              refine ax_val (v := .bool true) (.bool true) HB (by kernel_rfl) (by kernel_rfl) (rfl) ?_
                              refine ax_pass  HB (by kernel_rfl) ?_
                              refine ax_pass  HB (by kernel_rfl) ?_
                              refine ax_pass  HB (by kernel_rfl) ?_
                              refine ax_pass  HB (by kernel_rfl) ?_
                              refine ax_pass  HB (by kernel_rfl) ?_
                              refine ax_pass  HB (by kernel_rfl) ?_
                              refine ax_pass  HB (by kernel_rfl) ?_
                              refine ax_pass  HB (by kernel_rfl) ?_
                              refine ax_pass  HB (by kernel_rfl) ?_
                              refine ax_pass  HB (by kernel_rfl) ?_
                              refine ax_pass  HB (by kernel_rfl) ?_
                              refine ax_pass  HB (by kernel_rfl) ?_
                              refine ax_val (v := .bool true) (.bool true) HB (by kernel_rfl) (by kernel_rfl) (rfl) ?_
                              refine aw_nil ?_
                              refine aw_n_then ?_
                              refine ax_yes HB (by kernel_rfl) ?_
                              refine aw_seq ?_
                              refine aw_reg ?_
                              refine ax_val (v := .bool false) (.bool false) HB (by kernel_rfl) (by kernel_rfl) (rfl) ?_
                              refine aw_nil ?_
                              refine aw_n_then ?_
                              refine aw_ret ?_
                              exfalso
                              have R5 := HR5.out
                              have R6 := HR6.out
                              omega
                        · intro f310
                          have k310 := ne_of_beq_false f310
                          refine ax_val (v := .bool false) (.bool false) HB (by kernel_rfl) (by kernel_rfl) (rfl) ?_
                          refine ax_pass  HB (by kernel_rfl) ?_
                          refine ax_pass  HB (by kernel_rfl) ?_
                          refine ax_pass  HB (by kernel_rfl) ?_
                          refine ax_pass  HB (by kernel_rfl) ?_
                          refine ax_pass  HB (by kernel_rfl) ?_
                          refine ax_pass  HB (by kernel_rfl) ?_
                          refine ax_pass  HB (by kernel_rfl) ?_
                          refine ax_pass  HB (by kernel_rfl) ?_
                          refine ax_val (v := .bool false) (.bool false) HB (by kernel_rfl) (by kernel_rfl) (rfl) ?_
                          refine ax_val (v := .bool false) (.bool false) HB (by kernel_rfl) (by kernel_rfl) (rfl) ?_
                          refine ax_val (v := .int .i64 pa.2) (.int .i64 pa.2) HB (by kernel_rfl) (by kernel_rfl) (rfl) ?_
                          refine ax_fork (pa.2 == 0) HB (by kernel_rfl) (by kernel_rfl) ?_ ?_
                          · intro f325
                            have k325 := eq_of_beq f325
                            refine ax_val (v := .bool true) (.bool true) HB (by kernel_rfl) (by kernel_rfl) (rfl) ?_
                            refine ax_val (v := .int .i64 pm.2) (.int .i64 pm.2) HB (by kernel_rfl) (by kernel_rfl) (rfl) ?_
                            refine ax_fork (pm.2 != 0) HB (by kernel_rfl) (by kernel_rfl) ?_ ?_
                            · intro f327
                              have k327 := aw_neq_t f327
                              refine ax_val (v := .bool true) (.bool true) HB (by kernel_rfl) (by kernel_rfl) (rfl) ?_
                              refine ax_pass  HB (by kernel_rfl) ?_
                              refine ax_pass  HB (by kernel_rfl) ?_
                              refine ax_pass  HB (by kernel_rfl) ?_
                              refine ax_pass  HB (by kernel_rfl) ?_
                              refine ax_val (v := .bool true) (.bool true) HB (by kernel_rfl) (by kernel_rfl) (rfl) ?_
                              refine ax_val (v := .bool true) (.bool true) HB (by kernel_rfl) (by kernel_rfl) (rfl) ?_
                              refine ax_val (v := .bool true) (.bool true) HB (by kernel_rfl) (by kernel_rfl) (rfl) ?_
                              refine aw_nil ?_
                              refine aw_n_then ?_
                              refine ax_yes HB (by kernel_rfl) ?_
                              refine aw_seq ?_
                              refine aw_reg ?_
                              refine ax_val (v := .bool false) (.bool false) HB (by kernel_rfl) (by kernel_rfl) (rfl) ?_
                              refine aw_nil ?_
                              refine aw_n_then ?_
                              refine aw_ret ?_
                              exfalso
                              have R5 := HR5.out
                              have R6 := HR6.out
                              omega
                            · intro f328
                              have k328 := aw_neq_f f328
                              refine ax_val (v := .bool false) (.bool false) HB (by kernel_rfl) (by kernel_rfl) (rfl) ?_
                              refine ax_mid 55 (.tmp 14) 1 g136 0 55 [.int .i64 pm.1.1, .int .i64 pm.1.2] [.int .i64 pm.1.1, .int .i64 pm.1.2] _ HB HL280 (by kernel_rfl) rfl (by kernel_rfl) rfl rfl Tryd.underlying55 rfl (by kernel_rfl) ?_
                              refine ax_mid 55 (.tmp 12) 2 g129 0 55 [.int .i64 pa.1.1, .int .i64 pa.1.2] [.int .i64 pa.1.1, .int .i64 pa.1.2] _ HB HL280 (by kernel_rfl) rfl (by kernel_rfl) rfl rfl Tryd.underlying55 rfl (by kernel_rfl) ?_
                              refine ax_callb 35 #[.agg #[.int .i64 pm.1.1, .int .i64 pm.1.2], .agg #[.int .i64 pa.1.1, .int .i64 pa.1.2]] (winB pm.1.1 pm.1.2 pa.1.1 pa.1.2) HB HL280 (by kernel_rfl) (by kernel_rfl) (within8_any pm.1.1 pm.1.2 pa.1.1 pa.1.2 w281) ?_ ?_
                              · intro f331 w329 HL330
                                clear HL280
                                have k331 := winB_iff.1 f331
                                refine ax_val (v := .bool false) (.bool false) HB (by kernel_rfl) (by kernel_rfl) (rfl) ?_
                                refine ax_val (v := .bool false) (.bool false) HB (by kernel_rfl) (by kernel_rfl) (rfl) ?_
                                refine ax_val (v := .bool false) (.bool false) HB (by kernel_rfl) (by kernel_rfl) (rfl) ?_
                                refine ax_val (v := .bool false) (.bool false) HB (by kernel_rfl) (by kernel_rfl) (rfl) ?_
                                refine aw_nil ?_
                                refine aw_n_then ?_
                                refine ax_no HB (by kernel_rfl) ?_
                                refine aw_skip0 ?_
                                exact ⟨⟨rfl, (j2_185), (.int .i64 la.2), (.bool false), (.bool false), (undef), (undef), (undef), (undef), (undef), (undef), (undef), (undef), (.bool false), (.bool false), (.int .i64 pa.2), (.bool true), (.bool true), (.int .i64 pm.2), (.bool false), (.bool false), (.agg #[.int .i64 pm.1.1, .int .i64 pm.1.2]), (.agg #[.int .i64 pa.1.1, .int .i64 pa.1.2]), (.bool true), (.bool false), (.bool false), (.bool false), (.bool false), (by kernel_rfl), HL330⟩⟩
                              · intro f332 w329 HL330
                                clear HL280
                                have k332 := winB_no f332
                                refine ax_val (v := .bool true) (.bool true) HB (by kernel_rfl) (by kernel_rfl) (rfl) ?_
                                refine ax_val (v := .bool true) (.bool true) HB (by kernel_rfl) (by kernel_rfl) (rfl) ?_
                                refine ax_val (v := .bool true) (.bool true) HB (by kernel_rfl) (by kernel_rfl) (rfl) ?_
                                refine ax_val (v := .bool true) (.bool true) HB (by kernel_rfl) (by kernel_rfl) (rfl) ?_
                                refine aw_nil ?_
                                refine aw_n_then ?_
                                refine ax_yes HB (by kernel_rfl) ?_
                                refine aw_seq ?_
                                refine aw_reg ?_
                                refine ax_val (v := .bool false) (.bool false) HB (by kernel_rfl) (by kernel_rfl) (rfl) ?_
                                refine aw_nil ?_
                                refine aw_n_then ?_
                                refine aw_ret ?_
                                exfalso
                                have R5 := HR5.out
                                have R6 := HR6.out
                                omega
                          · intro f326
                            have k326 := ne_of_beq_false f326
                            refine ax_val (v := .bool false) (.bool false) HB (by kernel_rfl) (by kernel_rfl) (rfl) ?_
                            refine ax_pass  HB (by kernel_rfl) ?_
                            refine ax_pass  HB (by kernel_rfl) ?_
                            refine ax_pass  HB (by kernel_rfl) ?_
                            refine ax_pass  HB (by kernel_rfl) ?_
                            refine ax_pass  HB (by kernel_rfl) ?_
                            refine ax_pass  HB (by kernel_rfl) ?_
                            refine ax_pass  HB (by kernel_rfl) ?_
                            refine ax_pass  HB (by kernel_rfl) ?_
                            refine ax_val (v := .bool false) (.bool false) HB (by kernel_rfl) (by kernel_rfl) (rfl) ?_
                            refine ax_val (v := .bool false) (.bool false) HB (by kernel_rfl) (by kernel_rfl) (rfl) ?_
                            refine aw_nil ?_
                            refine aw_n_then ?_
                            refine ax_no HB (by kernel_rfl) ?_
                            refine aw_skip0 ?_
                            exact ⟨⟨rfl, (j2_185), (.int .i64 la.2), (.bool false), (.bool false), (undef), (undef), (undef), (undef), (undef), (undef), (undef), (undef), (.bool false), (.bool false), (.int .i64 pa.2), (.bool false), (.bool false), (undef), (undef), (undef), (undef), (undef), (undef), (undef), (undef), (.bool false), (.bool false), (by kernel_rfl), HL280⟩⟩
                      · rintro _ _ w333 ⟨rfl, j2_282, j220_283, j221_284, j222_285, j223_286, j224_287, j225_288, j226_289, j227_290, j228_291, j229_292, j230_293, j231_294, j232_295, j233_296, j234_297, j235_298, j236_299, j237_300, j238_301, j239_302, j240_303, j241_304, j242_305, j243_306, j244_307, j245_308, rfl, HL334⟩
                        clear HL280
                        clear HB
                        have HB : Array.size (#[.agg #[.int .i64 k, .int .i64 B, .int .i64 T, .int .i64 M, .int .i64 C, .int .i64 x, .int .i64 y, .int .i64 t, .int .u16 b], .pointer (some ⟨g1, 0, none⟩), j2_282, .pointer (some ⟨cg6, 0, none⟩), .pointer (some ⟨cg9, 0, none⟩), .int .i64 t, .int .u16 b, .int .i64 (min (t + b) 50000), .pointer (some ⟨g84, 0, none⟩), .int .i64 la.2, .pointer (some ⟨g91, 0, none⟩), .int .i64 lm.2, .pointer (some ⟨g129, 0, none⟩), .int .i64 pa.2, .pointer (some ⟨g136, 0, none⟩), .int .i64 pm.2, .pointer (some ⟨g172, 0, none⟩), .int .i64 (x + ((y - x) / 2)), .pointer (some ⟨g1, 0, none⟩), .agg #[.int .i64 k, .int .i64 B, .int .i64 T, .int .i64 M, .int .i64 C], .pointer (some ⟨g1, 5, none⟩), .agg #[.int .i64 x, .int .i64 y], .pointer (some ⟨g1, 7, none⟩), .int .i64 t, .pointer (some ⟨g1, 8, none⟩), .int .u16 b, .int .i64 t, .bool false, .bool false, .int .i64 t, .bool false, .bool false, .bool false, .pointer (some ⟨cg9, 0, none⟩), .int .i64 x, .bool false, .bool false, .bool false, .pointer (some ⟨cg9, 1, none⟩), .int .i64 y, .bool false, .bool false, .bool false, .pointer (some ⟨cg9, 0, none⟩), .int .i64 x, .pointer (some ⟨cg9, 1, none⟩), .int .i64 y, .bool false, .bool false, .bool false, .agg #[.int .i64 k, .int .i64 B, .int .i64 T, .int .i64 M, .int .i64 C], .int .i64 (if bdB k B T M C = true then (0 : Int) else 2), .bool false, .bool false, undef, .int .i64 t, .int .u16 b, .int .i64 b, .int .i64 (t + b), .int .i64 (min (t + b) 50000), .tuple #[.agg #[.int .i64 la.1.1, .int .i64 la.1.2], .int .i64 la.2], .agg #[.int .i64 k, .int .i64 B, .int .i64 T, .int .i64 M, .int .i64 C], .agg #[.int .i64 x, .int .i64 y], .int .i64 t, .tuple #[.agg #[.int .i64 la.1.1, .int .i64 la.1.2], .int .i64 la.2], .agg #[.int .i64 la.1.1, .int .i64 la.1.2], .int .i64 la.2, .tuple #[.agg #[.int .i64 lw.1.1, .int .i64 lw.1.2], .int .i64 lw.2], .agg #[.int .i64 k, .int .i64 B, .int .i64 T, .int .i64 M, .int .i64 C], .agg #[.int .i64 x, .int .i64 y], .int .i64 (min (t + b) 50000), .tuple #[.agg #[.int .i64 lw.1.1, .int .i64 lw.1.2], .int .i64 lw.2], .agg #[.int .i64 lw.1.1, .int .i64 lw.1.2], .int .i64 lw.2, j74_97, j75_98, j76_99, j77_100, j78_101, j79_102, j80_103, j81_104, j82_105, j83_106, j84_107, j85_108, j86_109, j87_110, j88_111, j89_112, j90_113, j91_114, j92_115, j93_116, .tuple #[.agg #[.int .i64 pa.1.1, .int .i64 pa.1.2], .int .i64 pa.2], .agg #[.int .i64 k, .int .i64 B, .int .i64 T, .int .i64 M, .int .i64 C], .agg #[.int .i64 x, .int .i64 y], .int .i64 t, .tuple #[.agg #[.int .i64 pa.1.1, .int .i64 pa.1.2], .int .i64 pa.2], .agg #[.int .i64 pa.1.1, .int .i64 pa.1.2], .int .i64 pa.2, .tuple #[.agg #[.int .i64 pw.1.1, .int .i64 pw.1.2], .int .i64 pw.2], .agg #[.int .i64 k, .int .i64 B, .int .i64 T, .int .i64 M, .int .i64 C], .agg #[.int .i64 x, .int .i64 y], .int .i64 (min (t + b) 50000), .tuple #[.agg #[.int .i64 pw.1.1, .int .i64 pw.1.2], .int .i64 pw.2], .agg #[.int .i64 pw.1.1, .int .i64 pw.1.2], .int .i64 pw.2, j108_142, j109_143, j110_144, j111_145, j112_146, j113_147, j114_148, j115_149, j116_150, j117_151, j118_152, j119_153, j120_154, j121_155, j122_156, j123_157, j124_158, j125_159, j126_160, j127_161, .pointer (some ⟨cg9, 0, none⟩), .int .i64 x, .int .u16 b, .int .i64 b, .int .i64 (x + b), .pointer (some ⟨cg9, 1, none⟩), .int .i64 y, .int .u16 b, .int .i64 b, .int .i64 (y + b), .agg #[.int .i64 (x + b), .int .i64 (y + b)], .tuple #[.agg #[.int .i64 ly.1.1, .int .i64 ly.1.2], .int .i64 ly.2], .agg #[.int .i64 k, .int .i64 B, .int .i64 T, .int .i64 M, .int .i64 C], .agg #[.int .i64 (x + b), .int .i64 (y + b)], .int .i64 t, .tuple #[.agg #[.int .i64 ly.1.1, .int .i64 ly.1.2], .int .i64 ly.2], .agg #[.int .i64 ly.1.1, .int .i64 ly.1.2], .int .i64 ly.2, .tuple #[.agg #[.int .i64 py.1.1, .int .i64 py.1.2], .int .i64 py.2], .agg #[.int .i64 k, .int .i64 B, .int .i64 T, .int .i64 M, .int .i64 C], .agg #[.int .i64 (x + b), .int .i64 (y + b)], .int .i64 t, .tuple #[.agg #[.int .i64 py.1.1, .int .i64 py.1.2], .int .i64 py.2], .agg #[.int .i64 py.1.1, .int .i64 py.1.2], .int .i64 py.2, j153_186, j154_187, j155_188, j156_189, j157_190, j158_191, j159_192, j160_193, j161_194, j162_195, j163_196, j164_197, j165_198, j166_199, j167_200, j168_201, j169_202, j170_203, j171_204, j172_205, j173_206, j174_207, j175_208, j176_209, j177_210, j178_211, j179_212, j180_213, j181_214, j182_215, j183_216, j184_217, j185_218, j186_219, j187_220, j188_221, j189_222, j190_223, j191_224, j192_225, j193_226, j194_227, .pointer (some ⟨cg9, 0, none⟩), .int .i64 x, .pointer (some ⟨cg9, 1, none⟩), .int .i64 y, .pointer (some ⟨cg9, 0, none⟩), .int .i64 x, .int .i64 (y - x), .int .i64 ((y - x) / 2), .int .i64 (x + ((y - x) / 2)), .tuple #[.agg #[.int .i64 lm.1.1, .int .i64 lm.1.2], .int .i64 lm.2], .agg #[.int .i64 k, .int .i64 B, .int .i64 T, .int .i64 M, .int .i64 C], .int .i64 (x + ((y - x) / 2)), .agg #[.int .i64 (x + ((y - x) / 2)), .int .i64 (x + ((y - x) / 2))], .int .i64 t, .tuple #[.agg #[.int .i64 lm.1.1, .int .i64 lm.1.2], .int .i64 lm.2], .agg #[.int .i64 lm.1.1, .int .i64 lm.1.2], .int .i64 lm.2, .tuple #[.agg #[.int .i64 pm.1.1, .int .i64 pm.1.2], .int .i64 pm.2], .agg #[.int .i64 k, .int .i64 B, .int .i64 T, .int .i64 M, .int .i64 C], .int .i64 (x + ((y - x) / 2)), .agg #[.int .i64 (x + ((y - x) / 2)), .int .i64 (x + ((y - x) / 2))], .int .i64 t, .tuple #[.agg #[.int .i64 pm.1.1, .int .i64 pm.1.2], .int .i64 pm.2], .agg #[.int .i64 pm.1.1, .int .i64 pm.1.2], .int .i64 pm.2, j220_283, j221_284, j222_285, j223_286, j224_287, j225_288, j226_289, j227_290, j228_291, j229_292, j230_293, j231_294, j232_295, j233_296, j234_297, j235_298, j236_299, j237_300, j238_301, j239_302, j240_303, j241_304, j242_305, j243_306, j244_307, j245_308, undef] : Array Value) = 247 := by kernel_rfl
                        refine Boxw.out (ax_re ?_)
                        refine aw_n_then ?_
                        refine aw_seq ?_
                        refine aw_reg ?_
                        refine ax_call 36 #[] (.bool true) HB HL334 (by kernel_rfl) (by kernel_rfl) (shown_any w333 (hkd.loc HL334)) ?_
                        intro w335 HL336
                        clear HL334
                        refine ax_val (v := .bool true) (.bool true) HB (by kernel_rfl) (by kernel_rfl) (rfl) ?_
                        refine aw_nil ?_
                        refine aw_n_then ?_
                        refine aw_ret ?_
                        refine aw_end (.bool true) (by kernel_rfl) (by kernel_rfl) ?_
                        exact ⟨rfl, HL336.bel⟩

end Go.Proofs.YtmbcejldifobnaaDoor.Ln
