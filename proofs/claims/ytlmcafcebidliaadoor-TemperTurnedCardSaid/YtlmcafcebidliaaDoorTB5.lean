import Derived.Test.YtlmcafcebidliaaDoorTAF
import Derived.Test.YtlmcafcebidliaaDoorTBA
namespace Go.Proofs.YtlmcafcebidliaaDoor.Tp
open Go.RowKit

/-! The law on turned temperaments. -/
theorem wpList_load_midw {P : Program} {ops : Array Oper} {rest : List Oper} {op : Oper} {a : Act} {w : World} {Q : Exit → Act → World → Prop} (hw : Region.wanted op (yielded ops a.tmps) = true) (ty : TypeId) (x : Operand) (ho : op.op = .load ty x)
    (b o : Nat) (hx : a.eval x = .pointer (some ⟨b, o, none⟩)) (cs : List Value) (d : TypeDesc) (hc : w.rangeAt b o cs)
    (hu : P.underlying ty = some d) (hd : d.isRow = true) (hi : (P.info? ty).map (·.size) = some cs.length)
    (h : wpList P ops Q rest (a.put op.dst (.agg cs.toArray)) w) : wpList P ops Q (op :: rest) a w := by
  unfold wpList
  rw [if_pos hw]
  exact Or.inl (wp_load_mid ty x ho b o hx cs d hc hu hd hi h)
set_option maxRecDepth 100000 in
set_option maxHeartbeats 4000000 in
theorem lawTurned_any (T : Tm) (a b c : Nat) (w : World) (hp : PrL w) (hl : T.ps.length = 12) (hs : T.nm.size ≤ maxLen) (ha : a < 256) (hb : b < 256) (hc : c < 256) : Calls Tryd.prog 7 #[.agg (tmV T).toArray, .agg #[.int .u8 (a : Int), .int .u8 (b : Int), .int .u8 (c : Int)]] w fun e w' => e = .returned (.bool true) ∧ Below w.heap.size w w' := by
  obtain ⟨u, hu⟩ : ∃ u, u = a % 12 := ⟨_, rfl⟩
  obtain ⟨v, hv⟩ : ∃ v, v = b % 12 := ⟨_, rfl⟩
  obtain ⟨x3, hx3⟩ : ∃ x3, x3 = c % 12 := ⟨_, rfl⟩
  have ma : (a : Int) % 12 = (u : Int) := by omega
  have mb : (b : Int) % 12 = (v : Int) := by omega
  have mc : (c : Int) % 12 = (x3 : Int) := by omega
  have na : (a : Int).tmod 12 = (u : Int) := by rw [Int.tmod_eq_emod_of_nonneg (by omega)]; exact ma
  have nb : (b : Int).tmod 12 = (v : Int) := by rw [Int.tmod_eq_emod_of_nonneg (by omega)]; exact mb
  have nc : (c : Int).tmod 12 = (x3 : Int) := by rw [Int.tmod_eq_emod_of_nonneg (by omega)]; exact mc
  have hu2 : u < 12 := by omega
  have hv2 : v < 12 := by omega
  have hx2 : x3 < 12 := by omega
  have HR := Lib.hid ((RowV.of_alloc w 26 (tmV T)).alloc (.cells #[.int .u8 (a : Int), .int .u8 (b : Int), .int .u8 (c : Int)] 48))
  have h3 : RowV ((w.alloc (.cells (tmV T).toArray 26)).alloc (.cells #[.int .u8 (a : Int), .int .u8 (b : Int), .int .u8 (c : Int)] 48)) (w.heap.size + 1) 48 [.int .u8 (a : Int), .int .u8 (b : Int), .int .u8 (c : Int)] := by
    have h := RowV.of_alloc (w.alloc (.cells (tmV T).toArray 26)) 48 [.int .u8 (a : Int), .int .u8 (b : Int), .int .u8 (c : Int)]
    rw [World.size_alloc] at h
    exact h
  have H3 := Lib.hid h3
  have HB := Lib.hid ((belB w (.cells (tmV T).toArray 26)).alloc (by simp) (.cells #[.int .u8 (a : Int), .int .u8 (b : Int), .int .u8 (c : Int)] 48))
  have HI2 := Lib.hid (szT hl)
  have HP := Lib.hid hp
  have HRC := Lib.hid (fun W => rCheck_any T W hl hs)
  clear hu hv hx3 h3
  by_cases hk : chkT T = 0
  case' neg =>
    have hkb : (chkT T != 0) = true := by simp [hk]
    clear hk ma mb mc na nb nc
    generalize chkT T = ck at *
    go_enter Tryd.func7, Tryd.ntmps7
    go_wp2_with ((show wpList _ _ _ (⟨_, .load _ _, _, _, _, _⟩ :: _) _ _); refine wpList_load_mid rfl 26 _ rfl w.heap.size 0 rfl (tmV T) _ HR.out.all Tryd.underlying26 rfl HI2.out ?_)
    refine (HRC.out _).mono ?_
    rintro e w1 ⟨he, hb1⟩
    subst he
    have HB1 := Lib.hid (HB.out.trans (hb1.mono HB.out.size))
    clear hb1
    go_wp2_with fail
    refine (awake_any _ (HP.out.below HB1.out)).mono ?_
    rintro e w2 ⟨he, hb2⟩
    subst he
    have HB2 := Lib.hid (HB1.out.trans (hb2.mono HB1.out.size))
    clear hb2
    go_wp2
    go_ret
    exact ⟨rfl, HB2.out⟩
  case' pos =>
    obtain ⟨D, wn, -, hvd⟩ := chk_vd hl hk
    have hw12 := hvd.w
    have hd1 := hvd.d1
    obtain ⟨m, hm⟩ : ∃ m, m = (wn + 7 * x3) % 12 := ⟨_, rfl⟩
    obtain ⟨d, hd⟩ : ∃ d, d = (12 - x3) % 12 := ⟨_, rfl⟩
    obtain ⟨u2, hu⟩ : ∃ u2, u2 = (u + x3) % 12 := ⟨_, rfl⟩
    obtain ⟨v2, hv⟩ : ∃ v2, v2 = (v + x3) % 12 := ⟨_, rfl⟩
    have m1 : ((12 : Int) - (x3 : Int)) % 12 = (d : Int) := by omega
    have m2 : ((u : Int) + (x3 : Int)) % 12 = (u2 : Int) := by omega
    have m3 : ((v : Int) + (x3 : Int)) % 12 = (v2 : Int) := by omega
    have n1 : ((12 : Int) - (x3 : Int)).tmod 12 = (d : Int) := by rw [Int.tmod_eq_emod_of_nonneg (by omega)]; exact m1
    have n2 : ((u : Int) + (x3 : Int)).tmod 12 = (u2 : Int) := by rw [Int.tmod_eq_emod_of_nonneg (by omega)]; exact m2
    have n3 : ((v : Int) + (x3 : Int)).tmod 12 = (v2 : Int) := by rw [Int.tmod_eq_emod_of_nonneg (by omega)]; exact m3
    have x1 : IntKind.i64.wrap ((12 : Int) - (x3 : Int)) = (12 : Int) - (x3 : Int) := IntWalk.i64_in _ (by omega)
    have x2 : IntKind.i64.wrap ((u : Int) + (x3 : Int)) = (u : Int) + (x3 : Int) := IntWalk.i64_in _ (by omega)
    have x4 : IntKind.i64.wrap ((v : Int) + (x3 : Int)) = (v : Int) + (x3 : Int) := IntWalk.i64_in _ (by omega)
    have hd12 : d < 12 := by omega
    have hu12 : u2 < 12 := by omega
    have hv12 : v2 < 12 := by omega
    have hkU := chk_turn (b := x3) hl hk hvd.wo hm hvd.w
    have hvU := hvd.turn hm
    have hTU := fun W => Turn_ok T wn x3 W hl hs hk hvd.wo hvd.w hx2
    have hTK := fun W => Turn_ok (turnT T x3 m) m d W (turnT_len T x3 m) hs hkU rfl (by omega) hd12
    have hbk := turn_back hl hvd.wo hvd.w hx2
    rw [← hm] at hTU hbk
    rw [← hd] at hbk
    rw [hbk] at hTK
    have hpe : ∀ x y, BetIs D (fN T D) wn (7 * u % 12) (7 * v % 12) x → BetIs D (fN (turnT T x3 m) D) m (7 * u2 % 12) (7 * v2 % 12) y → x = y := fun x y h1 h2 => by
      rw [show 7 * u % 12 = (7 * u2 % 12 + 5 * x3 % 12) % 12 by omega, show 7 * v % 12 = (7 * v2 % 12 + 5 * x3 % 12) % 12 by omega] at h1
      exact bet_turn (by omega) hw12 hm rfl (by omega) (by omega) h1 h2
    have PEQ := Lib.hid hpe
    have HTU := Lib.hid hTU
    have HTK := Lib.hid hTK
    have HBX := Lib.hid (fun W (h : PrL W) => Between_ok T D wn u v W h hl hs hk hvd hu2 hv2)
    have HBY := Lib.hid (fun W (h : PrL W) => Between_ok (turnT T x3 m) D m u2 v2 W h (turnT_len T x3 m) hs hkU hvU hu12 hv12)
    have HUL := Lib.hid (turnT_len T x3 m)
    have HSU := Lib.hid (szT (T := turnT T x3 m) (turnT_len T x3 m))
    have HL := Lib.hid hl
    rw [hk] at HRC
    have hz := zero26
    clear hk hvd hm hd hu hv hkU hvU hTU hTK hbk hpe hl hs
    generalize turnT T x3 m = U at *
    go_enter Tryd.func7, Tryd.ntmps7
    go_wp2_with ((show wpList _ _ _ (⟨_, .load _ _, _, _, _, _⟩ :: _) _ _); refine wpList_load_mid rfl 26 _ rfl w.heap.size 0 rfl (tmV T) _ HR.out.all Tryd.underlying26 rfl HI2.out ?_)
    refine (HRC.out _).mono ?_
    rintro e w1 ⟨he, hb1⟩
    subst he
    have tHR := HR.out.up hb1
    have t3 := H3.out.up hb1
    have tHB := HB.out.trans (hb1.mono HB.out.size)
    clear HR H3 HB hb1 HRC
    have d0 := t3.cell (i := 0) rfl
    have d1 := t3.cell (i := 1) rfl
    have d2 := t3.cell (i := 2) rfl
    have HR := Lib.hid tHR
    have HB := Lib.hid tHB
    clear tHR t3 tHB
    go_wp2_with fail
    go_quiet (fail)
    clear d0 d1 d2
    have key : ∀ n, RowV (w1.drewN n) w.heap.size 26 (tmV T) ∧ Below w.heap.size w (w1.drewN n) := fun n => ⟨HR.out.up (below_drewN w1 n), HB.out.trans ((below_drewN w1 n).mono HB.out.size)⟩
    have key2 := key nq
    generalize w1.drewN nq = W0 at *
    clear HR HB
    have HR := Lib.hid key2.1
    have HB := Lib.hid key2.2
    clear key key2 ma mb mc na nb nc ha hb hc
    go_wp2_with ((show wpList _ _ _ (⟨_, .load _ _, _, _, _, _⟩ :: _) _ _); refine wpList_load_mid rfl 26 _ rfl w.heap.size 0 rfl (tmV T) _ HR.out.all Tryd.underlying26 rfl HI2.out ?_)
    refine (HTU.out _).mono ?_
    rintro e w4 ⟨he, hb⟩
    subst he
    have tHR := HR.out.up hb
    have tHB := HB.out.trans (hb.mono HB.out.size)
    clear hb HB HR
    have r0 := RowV.of_alloc w4 26 (tmV tm0)
    have hth : (w4.alloc (.cells (tmV tm0).toArray 26)).there w4.heap.size 0 (tmV U).toArray.size := r0.there (by rw [List.size_toArray, tmV_len, tmV_len, HUL.out]; decide)
    have r1 := r0.setCells (tmV U) 0 _ _ (by rw [tmV_len, tmV_len, HUL.out]; decide)
    rw [tmV_put U HUL.out] at r1
    have bA := below_setCells (g := w4.heap.size) (tmV U) 0 _ (belB w4 (.cells (tmV tm0).toArray 26)) (Nat.le_refl _)
    have HR := Lib.hid (tHR.up bA)
    have HB := Lib.hid (tHB.trans (bA.mono tHB.size))
    have HTHw4 := Lib.hid hth
    have RU := Lib.hid r1
    clear r0 r1 hth bA tHB tHR
    go_wp2_with (first | ((show wpList _ _ _ (⟨_, .store _ _ _, _, _, _, _⟩ :: _) _ _); refine wpList_store_mid rfl 26 _ _ rfl w4.heap.size 0 (tmV U).toArray rfl rfl HTHw4.out HSU.out (oneT _) ?_) | ((show wpList _ _ _ (⟨_, .load _ _, _, _, _, _⟩ :: _) _ _); refine wpList_load_mid rfl 26 _ rfl w4.heap.size 0 rfl (tmV U) _ RU.out.all Tryd.underlying26 rfl HSU.out ?_))
    refine (HTK.out _).mono ?_
    rintro e w5 ⟨he, hb⟩
    subst he
    have tHR := HR.out.up hb
    have tRU := RU.out.up hb
    have tHB := HB.out.trans (hb.mono HB.out.size)
    clear hb HB HR RU
    have r0 := RowV.of_alloc w5 26 (tmV tm0)
    have hth : (w5.alloc (.cells (tmV tm0).toArray 26)).there w5.heap.size 0 (tmV T).toArray.size := r0.there (by rw [List.size_toArray, tmV_len, tmV_len, HL.out]; decide)
    have r1 := r0.setCells (tmV T) 0 _ _ (by rw [tmV_len, tmV_len, HL.out]; decide)
    rw [tmV_put T HL.out] at r1
    have bA := below_setCells (g := w5.heap.size) (tmV T) 0 _ (belB w5 (.cells (tmV tm0).toArray 26)) (Nat.le_refl _)
    have HR := Lib.hid (tHR.up bA)
    have RU := Lib.hid (tRU.up bA)
    have HB := Lib.hid (tHB.trans (bA.mono tHB.size))
    have HTHw5 := Lib.hid hth
    have RB := Lib.hid r1
    clear r0 r1 hth bA tHB tHR tRU
    go_wp2_with (first | ((show wpList _ _ _ (⟨_, .store _ _ _, _, _, _, _⟩ :: _) _ _); refine wpList_store_mid rfl 26 _ _ rfl w5.heap.size 0 (tmV T).toArray rfl rfl HTHw5.out HI2.out (oneT _) ?_) | ((show wpList _ _ _ (⟨_, .load _ _, _, _, _, _⟩ :: _) _ _); refine wpList_load_mid rfl 26 _ rfl w.heap.size 0 rfl (tmV T) _ HR.out.all Tryd.underlying26 rfl HI2.out ?_))
    refine (HBX.out _ (HP.out.below HB.out)).mono ?_
    rintro e w6 ⟨x, hx, he, hb⟩
    subst he
    have tHR := HR.out.up hb
    have tRU := RU.out.up hb
    have tRB := RB.out.up hb
    have tHB := HB.out.trans (hb.mono HB.out.size)
    clear hb HB HR RU RB
    have HR := Lib.hid tHR
    have RU := Lib.hid tRU
    have RB := Lib.hid tRB
    have HB := Lib.hid tHB
    have HX := Lib.hid hx
    clear tHR tRU tRB tHB hx HBX
    unfold cR cellsR
    go_wp2_with ((show wpList _ _ _ (⟨_, .load _ _, _, _, _, _⟩ :: _) _ _); refine wpList_load_mid rfl 26 _ rfl w4.heap.size 0 rfl (tmV U) _ (RU.out.alloc (.cells #[.int .i64 x.v.a, .int .i64 x.v.b, .int .i64 x.v.c, .int .i64 x.v.d, .int .i64 x.v.e, .int .i64 x.v.f, .int .i64 x.d] 40)).all Tryd.underlying26 rfl HSU.out ?_)
    refine (HBY.out _ (HP.out.below (HB.out.alloc HB.out.size (.cells #[.int .i64 x.v.a, .int .i64 x.v.b, .int .i64 x.v.c, .int .i64 x.v.d, .int .i64 x.v.e, .int .i64 x.v.f, .int .i64 x.d] 40)))).mono ?_
    rintro e w7 ⟨y, hy, he, hb⟩
    subst he
    have exy := PEQ.out x y HX.out hy
    subst exy
    have tHR := (HR.out.alloc (.cells #[.int .i64 x.v.a, .int .i64 x.v.b, .int .i64 x.v.c, .int .i64 x.v.d, .int .i64 x.v.e, .int .i64 x.v.f, .int .i64 x.d] 40)).up hb
    have tRB := (RB.out.alloc (.cells #[.int .i64 x.v.a, .int .i64 x.v.b, .int .i64 x.v.c, .int .i64 x.v.d, .int .i64 x.v.e, .int .i64 x.v.f, .int .i64 x.d] 40)).up hb
    have tRX := (RowV.of_alloc w6 40 (cellsR x)).up hb
    have tHB := (HB.out.alloc HB.out.size (.cells #[.int .i64 x.v.a, .int .i64 x.v.b, .int .i64 x.v.c, .int .i64 x.v.d, .int .i64 x.v.e, .int .i64 x.v.f, .int .i64 x.d] 40)).trans (hb.mono (HB.out.alloc HB.out.size _).size)
    have HR := Lib.hid (tHR.alloc (.cells #[.int .i64 x.v.a, .int .i64 x.v.b, .int .i64 x.v.c, .int .i64 x.v.d, .int .i64 x.v.e, .int .i64 x.v.f, .int .i64 x.d] 40))
    have RB := Lib.hid (tRB.alloc (.cells #[.int .i64 x.v.a, .int .i64 x.v.b, .int .i64 x.v.c, .int .i64 x.v.d, .int .i64 x.v.e, .int .i64 x.v.f, .int .i64 x.d] 40))
    have RX := Lib.hid (tRX.alloc (.cells #[.int .i64 x.v.a, .int .i64 x.v.b, .int .i64 x.v.c, .int .i64 x.v.d, .int .i64 x.v.e, .int .i64 x.v.f, .int .i64 x.d] 40))
    have RY := Lib.hid (RowV.of_alloc w7 40 (cellsR x))
    have HB := Lib.hid (tHB.alloc tHB.size (.cells #[.int .i64 x.v.a, .int .i64 x.v.b, .int .i64 x.v.c, .int .i64 x.v.d, .int .i64 x.v.e, .int .i64 x.v.f, .int .i64 x.d] 40))
    clear tHR tRB tRX tHB hb hy HX RU PEQ HBY HTU HTK
    have het := fun W => eq_temper HL.out W
    have her : ∀ W, (binOp .eql 40 (.agg (cellsR x).toArray) (.agg (cellsR x).toArray)).run Tryd.prog W = .ok (.bool true) W := fun W => (eqlR x x W).trans (by rw [eqRt_iff.2 rfl])
    unfold cR cellsR
    go_wp2_with (first | ((show wpList _ _ _ (⟨_, .load _ _, _, _, _, _⟩ :: _) _ _); refine wpList_load_midw (by rfl) 26 _ rfl w5.heap.size 0 rfl (tmV T) _ RB.out.all Tryd.underlying26 rfl HI2.out ?_) | ((show wpList _ _ _ (⟨_, .load _ _, _, _, _, _⟩ :: _) _ _); refine wpList_load_midw (by rfl) 26 _ rfl w.heap.size 0 rfl (tmV T) _ HR.out.all Tryd.underlying26 rfl HI2.out ?_) | ((show wpList _ _ _ (⟨_, .load _ _, _, _, _, _⟩ :: _) _ _); refine wpList_load_midw (by rfl) 40 _ rfl w6.heap.size 0 rfl (cellsR x) _ RX.out.all Tryd.underlying40 rfl (szR x) ?_) | ((show wpList _ _ _ (⟨_, .load _ _, _, _, _, _⟩ :: _) _ _); refine wpList_load_midw (by rfl) 40 _ rfl w7.heap.size 0 rfl (cellsR x) _ RY.out.all Tryd.underlying40 rfl (szR x) ?_))
    refine (awake_any _ (HP.out.below HB.out)).mono ?_
    rintro e w8 ⟨he, hb⟩
    subst he
    have HB1 := Lib.hid (HB.out.trans (hb.mono HB.out.size))
    clear hb
    go_wp2
    go_ret
    exact ⟨rfl, HB1.out⟩
end Go.Proofs.YtlmcafcebidliaaDoor.Tp
