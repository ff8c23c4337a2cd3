import Derived.Test.YtlababdfdjjjaaaGreatDoorX3
namespace Go.Proofs.YtlababdfdjjjaaaGreatDoor
open Go.RowKit

/-! The reference's Ratio. -/
set_option maxRecDepth 100000 in
set_option maxHeartbeats 4000000 in
theorem rRatio_any (neg : Bool) (va vb : Value) (la lb : List Nat) (w : World) (ha : Arg w va la) (hb : Arg w vb lb) :
    Calls Tryz.prog 65 #[.bool neg, va, vb] w (ResW w (ratioW neg la lb)) := by
  have hF := qr_start w
  obtain ⟨W, hW⟩ : ∃ W, W = w.alloc (.cells #[.bool false, .slice none 0 0, .slice none 0 0] 48) := ⟨_, rfl⟩
  rw [← hW] at hF
  have hsz : W.heap.size = w.heap.size + 1 := by rw [hW]; simp
  have hex := rexam2 va vb la lb W (ha.up hF.bl) (hb.up hF.bl)
  replace hex := hex.mono (fun e w' (h : e = .returned (.int .i64 (examW [la, lb])) ∧ _) => (⟨h.1, hF.below h.2⟩ : e = .returned (.int .i64 (examW [la, lb])) ∧ QR w w'))
  rw [hsz] at hex
  have hnum : examW [la, lb] = 0 → ∀ W, Below w.heap.size w W → (Num W W.heap.size va (val la) ∧ (dg (val la)).length ≤ 512) ∧ (Num W W.heap.size vb (val lb) ∧ (dg (val lb)).length ≤ 512) := fun h W hW => ⟨⟨(ha.num h (by simp)).1.up hW, (ha.num h (by simp)).2.1⟩, ⟨(hb.num h (by simp)).1.up hW, (hb.num h (by simp)).2.1⟩⟩
  have hlz : examW [la, lb] = 0 → (lb.length = 0 ↔ val lb = 0) := fun h0 => lenz (hb.num h0 (by simp)).2.2
  have hlo : examW [la, lb] = 0 → val lb ≠ 0 → ∀ W', Below w.heap.size w W' → Calls Tryz.prog 108 #[.bool neg, va, vb] W' (ResF W' (lowW neg (val la) (val lb))) := by
    intro h0 hz W' hW'
    obtain ⟨⟨a1, a2⟩, ⟨b1, b2⟩⟩ := hnum h0 W' hW'
    exact rlow_num neg a1 b1 hz (by omega) (by omega)
  obtain ⟨A, capa, rfl, -⟩ := ha.1.form
  obtain ⟨B, capb, rfl, -⟩ := hb.1.form
  unfold ratioW
  generalize lowW neg (val la) (val lb) = fr at *
  generalize examW [la, lb] = ec at *
  have HEX := Lib.hid hex
  have HLO := Lib.hid hlo
  clear hex hlo hnum hF hsz ha hb
  generalize val lb = vn at *
  generalize la.length = l1 at *
  generalize lb.length = l2 at *
  by_cases h0 : ec = 0
  · subst h0
    rw [if_pos rfl]
    by_cases hz : vn = 0
    · rw [if_pos hz]
      obtain rfl : l2 = 0 := (hlz rfl).2 hz
      clear hlz
      clear hz HLO
      subst hW
      go_enter Tryz.func65, Tryz.ntmps65
      go_wp2_with fail
      refine HEX.out.mono ?_
      rintro e w2 ⟨he, hS2⟩
      subst he
      have r0 := hS2.qr.c0
      have r1 := hS2.qr.c1
      have r2 := hS2.qr.c2
      have r3 := hS2.qr.fr 0
      have r4 := hS2.qr.fr 1
      have r5 := hS2.qr.fr 2
      go_wp2_with fail
      change bodyPost _ _ _ Exit.ret _ (wroteQ w2 w.heap.size false (.slice none 0 0) (.slice none 0 0))
      have g1 := hS2.qr.write false (.slice none 0 0) (.slice none 0 0)
      have g4 := wroteQ_below hS2.bl (Nat.le_refl _) false (.slice none 0 0) (.slice none 0 0)
      generalize wroteQ w2 w.heap.size false (.slice none 0 0) (.slice none 0 0) = W9 at g1 g4 ⊢
      have k0 := g1.c0
      have k1 := g1.c1
      have k2 := g1.c2
      refine bodyPost_ret (v := .tuple #[.agg #[.bool false, .slice none 0 0, .slice none 0 0], .int .i64 4]) ?_ rfl ⟨_, _, rfl, Num.zero _ _, Num.zero _ _, g4⟩
      simp [results, Tryz.results65, k0, k1, k2, go_sem]
    · rw [if_neg hz]
      have hl2 : l2 ≠ 0 := fun h => hz ((hlz rfl).1 h)
      have q3 : ((l2 : Int) == 0) = false := by simp; omega
      clear hlz hl2
      have HUL := Lib.hid (HLO.out rfl hz)
      clear hz HLO
      obtain ⟨rs, rm, rn, re⟩ := fr
      subst hW
      go_enter Tryz.func65, Tryz.ntmps65
      go_wp2_with fail
      refine HEX.out.mono ?_
      rintro e w2 ⟨he, hS2⟩
      subst he
      have r0 := hS2.qr.c0
      have r1 := hS2.qr.c1
      have r2 := hS2.qr.c2
      have r3 := hS2.qr.fr 0
      have r4 := hS2.qr.fr 1
      have r5 := hS2.qr.fr 2
      go_wp2_with fail
      refine (HUL.out w2 hS2.bl).mono ?_
      rintro e w5 ⟨Bn, ln, cn, Bd, ld, cd, he, hvn, hvd, hbc⟩
      subst he
      have hSc := hS2.below hbc
      have s0 := hSc.qr.c0
      have s1 := hSc.qr.c1
      have s2 := hSc.qr.c2
      have s3 := hSc.qr.fr 0
      have s4 := hSc.qr.fr 1
      have s5 := hSc.qr.fr 2
      go_wp2_with fail
      change bodyPost _ _ _ Exit.ret _ (wroteQ w5 w.heap.size rs (.slice Bn ln cn) (.slice Bd ld cd))
      have g1 := hSc.qr.write rs (.slice Bn ln cn) (.slice Bd ld cd)
      have g2 : Num (wroteQ w5 w.heap.size rs (.slice Bn ln cn) (.slice Bd ld cd)) w5.heap.size (.slice Bn ln cn) rm := Lim.wroteQ hvn hSc.qr rs _ _
      have g3 : Num (wroteQ w5 w.heap.size rs (.slice Bn ln cn) (.slice Bd ld cd)) w5.heap.size (.slice Bd ld cd) rn := Lim.wroteQ hvd hSc.qr rs _ _
      have g4 := wroteQ_below hSc.bl (Nat.le_refl _) rs (.slice Bn ln cn) (.slice Bd ld cd)
      have g5 : w5.heap.size ≤ (wroteQ w5 w.heap.size rs (.slice Bn ln cn) (.slice Bd ld cd)).heap.size := by simp [wroteQ, World.setCell]
      generalize wroteQ w5 w.heap.size rs (.slice Bn ln cn) (.slice Bd ld cd) = W9 at g1 g2 g3 g4 g5 ⊢
      have k0 := g1.c0
      have k1 := g1.c1
      have k2 := g1.c2
      refine bodyPost_ret (v := .tuple #[.agg #[.bool rs, .slice Bn ln cn, .slice Bd ld cd], .int .i64 re]) ?_ rfl ⟨_, _, rfl, Lim.more g2 g5, Lim.more g3 g5, g4⟩
      simp [results, Tryz.results65, k0, k1, k2, go_sem]
  · rw [if_neg h0]
    have q1 : (ec == 0) = false := by simp [h0]
    have q2 : (ec != 0) = true := by simp [h0]
    clear h0 HLO hlz
    subst hW
    go_enter Tryz.func65, Tryz.ntmps65
    go_wp2_with fail
    refine HEX.out.mono ?_
    rintro e w2 ⟨he, hS2⟩
    subst he
    have r0 := hS2.qr.c0
    have r1 := hS2.qr.c1
    have r2 := hS2.qr.c2
    have r3 := hS2.qr.fr 0
    have r4 := hS2.qr.fr 1
    have r5 := hS2.qr.fr 2
    go_wp2_with fail
    change bodyPost _ _ _ Exit.ret _ (wroteQ w2 w.heap.size false (.slice none 0 0) (.slice none 0 0))
    have g1 := hS2.qr.write false (.slice none 0 0) (.slice none 0 0)
    have g4 := wroteQ_below hS2.bl (Nat.le_refl _) false (.slice none 0 0) (.slice none 0 0)
    generalize wroteQ w2 w.heap.size false (.slice none 0 0) (.slice none 0 0) = W9 at g1 g4 ⊢
    have k0 := g1.c0
    have k1 := g1.c1
    have k2 := g1.c2
    refine bodyPost_ret (v := .tuple #[.agg #[.bool false, .slice none 0 0, .slice none 0 0], .int .i64 ec]) ?_ rfl ⟨_, _, rfl, Num.zero _ _, Num.zero _ _, g4⟩
    simp [results, Tryz.results65, k0, k1, k2, go_sem]
end Go.Proofs.YtlababdfdjjjaaaGreatDoor
