import Derived.Test.YtdncfignegagjaaDoorR2
import Derived.Laws.BytesArg
namespace Go.Proofs.YtdncfignegagjaaDoor
open Go.RowKit

def lets : List UInt8 := [99, 100, 101, 102, 103, 97, 98]
def alS (i o : Nat) (mid : List UInt8) : List UInt8 := (lets.drop i).take 1 ++ mid ++ [UInt8.ofNat (48 + o)]
/-- What the law asks of the four readings. -/
def alOK (i o : Nat) : Bool :=
  let a := parseNoteW (alS i o [])
  let b := parseNoteW (alS (i + 1) o [])
  let c := parseNoteW (alS i o [35])
  let d := parseNoteW (alS (i + 1) o [98])
  decide (0 ≤ a.1) && decide (a.1 ≤ 127) && decide (0 ≤ b.1) && decide (b.1 ≤ 127) &&
  (if a.2 = 0 ∧ b.2 = 0 then decide (c.2 = 0) && decide (d.2 = 0) && (decide (b.1 - a.1 = 2) == decide (c.1 = d.1)) else decide (o = 9) && decide (4 ≤ i))
theorem alOK_all : ∀ i : Fin 6, ∀ o : Fin 10, alOK i.val o.val = true := by decide +kernel

def letsB : ByteArray := { data := #[99, 100, 101, 102, 103, 97, 98] }
theorem al_byte (o : Nat) : UInt8.ofNat (48 + o) = 48 + UInt8.ofNat o := by simp
theorem al_plain' (i j o : Nat) (h : j = i + 1) (w : World) (hT : Tabs w) :
    Calls Tryd.prog 24 #[.string (({ data := #[99, 100, 101, 102, 103, 97, 98] } : ByteArray).extract i j ++ { data := #[48 + UInt8.ofNat o] })] w fun e w' => e = .returned (intV (parseNoteW (alS i o []))) ∧ Below w.heap.size w w' := by
  subst h
  have hl : (({ data := #[99, 100, 101, 102, 103, 97, 98] } : ByteArray).extract i (i + 1) ++ { data := #[48 + UInt8.ofNat o] }).data.toList = alS i o [] := by
    rw [bapp, Lib.extract_data]; unfold alS; rw [al_byte]; simp [lets]
  have := parseNote_any (({ data := #[99, 100, 101, 102, 103, 97, 98] } : ByteArray).extract i (i + 1) ++ { data := #[48 + UInt8.ofNat o] }) w hT (by
    rw [← len_eq, hl]; unfold alS; simp [lets]; omega)
  rw [hl] at this
  exact this
theorem al_plain (i o : Nat) (w : World) (hT : Tabs w) :
    Calls Tryd.prog 24 #[.string (({ data := #[99, 100, 101, 102, 103, 97, 98] } : ByteArray).extract i (i + 1) ++ { data := #[48 + UInt8.ofNat o] })] w fun e w' => e = .returned (intV (parseNoteW (alS i o []))) ∧ Below w.heap.size w w' := al_plain' i (i + 1) o rfl w hT
theorem al_mid (i j o : Nat) (c : UInt8) (h : j = i + 1) (w : World) (hT : Tabs w) :
    Calls Tryd.prog 24 #[.string (({ data := #[99, 100, 101, 102, 103, 97, 98] } : ByteArray).extract i j ++ { data := #[c] } ++ { data := #[48 + UInt8.ofNat o] })] w fun e w' => e = .returned (intV (parseNoteW (alS i o [c]))) ∧ Below w.heap.size w w' := by
  subst h
  have hl : (({ data := #[99, 100, 101, 102, 103, 97, 98] } : ByteArray).extract i (i + 1) ++ { data := #[c] } ++ { data := #[48 + UInt8.ofNat o] }).data.toList = alS i o [c] := by
    rw [bapp, bapp, Lib.extract_data]; unfold alS; rw [al_byte]; simp [lets]
  have := parseNote_any (({ data := #[99, 100, 101, 102, 103, 97, 98] } : ByteArray).extract i (i + 1) ++ { data := #[c] } ++ { data := #[48 + UInt8.ofNat o] }) w hT (by
    rw [← len_eq, hl]; unfold alS; simp [lets]; omega)
  rw [hl] at this
  exact this
theorem al_sharp (i o : Nat) (w : World) (hT : Tabs w) :
    Calls Tryd.prog 24 #[.string (({ data := #[99, 100, 101, 102, 103, 97, 98] } : ByteArray).extract i (i + 1) ++ { data := #[35] } ++ { data := #[48 + UInt8.ofNat o] })] w fun e w' => e = .returned (intV (parseNoteW (alS i o [35]))) ∧ Below w.heap.size w w' := al_mid i (i + 1) o 35 rfl w hT
theorem al_flat (i j o : Nat) (h : j = i + 1) (w : World) (hT : Tabs w) :
    Calls Tryd.prog 24 #[.string (({ data := #[99, 100, 101, 102, 103, 97, 98] } : ByteArray).extract i j ++ { data := #[98] } ++ { data := #[48 + UInt8.ofNat o] })] w fun e w' => e = .returned (intV (parseNoteW (alS i o [98]))) ∧ Below w.heap.size w w' := al_mid i j o 98 h w hT

set_option maxRecDepth 100000 in
set_option maxHeartbeats 2000000 in
theorem lawAlike_any (x y : Int) (w : World) (hT : Tabs w) (hx : 0 ≤ x ∧ x ≤ 255) (hy : 0 ≤ y ∧ y ≤ 255) :
    Calls Tryd.prog 11 #[.int .u8 x, .int .u8 y] w fun e w' => e = .returned (.bool true) ∧ Below w.heap.size w w' := by
  have HT := Lib.hid hT
  clear hT
  obtain ⟨x, rfl⟩ : ∃ n : Nat, x = n := ⟨x.toNat, by omega⟩
  obtain ⟨y, rfl⟩ : ∃ n : Nat, y = n := ⟨y.toNat, by omega⟩
  obtain ⟨i, hi, hi6⟩ : ∃ i : Nat, (x : Int) % 6 = (i : Int) ∧ i < 6 := ⟨x % 6, by omega, by omega⟩
  obtain ⟨o, ho, ho10⟩ : ∃ o : Nat, (y : Int) % 10 = (o : Int) ∧ o < 10 := ⟨y % 10, by omega, by omega⟩
  have hconv : (convert 59 9 (.slice (some ⟨w.heap.size, 0, none⟩) 1 1)).run Tryd.prog (w.alloc (.cells #[.int .u8 (48 + (o : Int))] 5)) = .ok (.string ⟨#[UInt8.ofNat (48 + o)]⟩) (w.alloc (.cells #[.int .u8 (48 + (o : Int))] 5)) := by
    have := run_convert_bytes_arg (P := Tryd.prog) (w.alloc (.cells #[.int .u8 (48 + (o : Int))] 5)) 59 5 Tryd.underlying59 Tryd.underlying5 w.heap.size 0 1 1 [48 + (o : Int)] rfl (fun i hi => by
      obtain rfl : i = 0 := by omega
      simp) 9 Tryd.underlying9
    rw [this]
    have e : (48 + (o : Int)).toNat = 48 + o := by omega
    simp [strOfNums, e]
  have hall := alOK_all ⟨i, hi6⟩ ⟨o, ho10⟩
  simp only at hall
  have HALL := Lib.hid hall
  clear hall
  have p1 := Lib.hid (al_plain i o)
  have p2 := Lib.hid (al_plain' (i + 1) (i + 2) o (by omega))
  have p3 := Lib.hid (al_sharp i o)
  have p4 := Lib.hid (al_flat (i + 1) (i + 2) o (by omega))
  unfold alOK at HALL
  simp only at HALL
  generalize parseNoteW (alS i o []) = a at *
  generalize parseNoteW (alS (i + 1) o []) = b at *
  generalize parseNoteW (alS i o [35]) = c at *
  generalize parseNoteW (alS (i + 1) o [98]) = d at *
  obtain ⟨a, ea⟩ := a
  obtain ⟨b, eb⟩ := b
  obtain ⟨c, ec⟩ := c
  obtain ⟨d, ed⟩ := d
  simp only [intV] at p1 p2 p3 p4
  have i0 : (0 : Int) ≤ (i : Int) := Int.natCast_nonneg _
  have i1 : (i : Int) < 6 := by omega
  have hb0 : Below w.heap.size w (w.alloc (.cells #[.int .u8 (48 + (o : Int))] 5)) := (Below.refl _ _).alloc (Nat.le_refl _) _
  have hall := HALL.out
  simp only [Bool.and_eq_true, decide_eq_true_eq] at hall
  obtain ⟨⟨⟨⟨ha0, ha1⟩, hbb0⟩, hbb1⟩, hrest⟩ := hall
  by_cases hab : ea = 0 ∧ eb = 0
  · rw [if_pos hab] at hrest
    obtain ⟨rfl, rfl⟩ := hab
    simp only [Bool.and_eq_true, decide_eq_true_eq] at hrest
    obtain ⟨⟨rfl, rfl⟩, hcd⟩ := hrest
    have hcd2 : ((b - a == 2) == (c == d)) = true := by
      rw [show (b - a == 2) = decide (b - a = 2) from rfl, show (c == d) = decide (c = d) from rfl]; exact hcd
    clear hcd HALL
    go_enter Tryd.func11, Tryd.ntmps11
    go_wp2_with fail
    refine (p1.out _ (HT.out.below hb0)).mono ?_
    rintro e w1 ⟨rfl, hb1⟩
    have hb1 := hb0.trans (hb1.mono hb0.size)
    go_wp2_with fail
    refine (p2.out _ (HT.out.below hb1)).mono ?_
    rintro e w2 ⟨rfl, hb2⟩
    have hb2 := hb1.trans (hb2.mono hb1.size)
    go_wp2_with fail
    refine (p3.out _ (HT.out.below hb2)).mono ?_
    rintro e w3 ⟨rfl, hb3⟩
    have hb3 := hb2.trans (hb3.mono hb2.size)
    go_wp2_with fail
    refine (p4.out _ (HT.out.below hb3)).mono ?_
    rintro e w4 ⟨rfl, hb4⟩
    have hb4 := hb3.trans (hb4.mono hb3.size)
    go_wp2_with fail
    refine (shown_any _ (HT.out.below hb4)).mono ?_
    rintro e w5 ⟨rfl, hb5⟩
    have hb5 := hb4.trans (hb5.mono hb4.size)
    go_wp2_with fail
    go_ret
    exact ⟨rfl, hb5⟩
  · rw [if_neg hab] at hrest
    simp only [Bool.and_eq_true, decide_eq_true_eq] at hrest
    obtain ⟨ho9, hi4⟩ := hrest
    clear HALL
    have q9 : ((o : Int) == 9) = true := by simp; omega
    have q4 : 4 ≤ (i : Int) := by omega
    by_cases hea : ea = 0
    · have heb : ¬ eb = 0 := fun e => hab ⟨hea, e⟩
      subst hea
      have q1 : (eb == 0) = false := by simp [heb]
      have q2 : (eb != 0) = true := by simp [heb]
      clear heb hab ho9
      go_enter Tryd.func11, Tryd.ntmps11
      go_wp2_with fail
      refine (p1.out _ (HT.out.below hb0)).mono ?_
      rintro e w1 ⟨rfl, hb1⟩
      have hb1 := hb0.trans (hb1.mono hb0.size)
      go_wp2_with fail
      refine (p2.out _ (HT.out.below hb1)).mono ?_
      rintro e w2 ⟨rfl, hb2⟩
      have hb2 := hb1.trans (hb2.mono hb1.size)
      go_wp2_with fail
      refine (shown_any _ (HT.out.below hb2)).mono ?_
      rintro e w5 ⟨rfl, hb5⟩
      have hb5 := hb2.trans (hb5.mono hb2.size)
      go_wp2_with fail
      go_ret
      exact ⟨rfl, hb5⟩
    · have q1 : (ea == 0) = false := by simp [hea]
      have q2 : (ea != 0) = true := by simp [hea]
      clear hea hab ho9
      go_enter Tryd.func11, Tryd.ntmps11
      go_wp2_with fail
      refine (p1.out _ (HT.out.below hb0)).mono ?_
      rintro e w1 ⟨rfl, hb1⟩
      have hb1 := hb0.trans (hb1.mono hb0.size)
      go_wp2_with fail
      refine (p2.out _ (HT.out.below hb1)).mono ?_
      rintro e w2 ⟨rfl, hb2⟩
      have hb2 := hb1.trans (hb2.mono hb1.size)
      go_wp2_with fail
      refine (shown_any _ (HT.out.below hb2)).mono ?_
      rintro e w5 ⟨rfl, hb5⟩
      have hb5 := hb2.trans (hb5.mono hb2.size)
      go_wp2_with fail
      go_ret
      exact ⟨rfl, hb5⟩
end Go.Proofs.YtdncfignegagjaaDoor
