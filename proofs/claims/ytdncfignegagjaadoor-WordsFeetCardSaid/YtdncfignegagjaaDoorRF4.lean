import Derived.Test.YtdncfignegagjaaDoorRF3
namespace Go.Proofs.YtdncfignegagjaaDoor
open Go.RowKit

set_option maxHeartbeats 2000000 in
set_option maxRecDepth 100000 in
theorem rparseFeet_any (s : ByteArray) (w : World) (hT : Tabs w) :
    Calls Tryd.prog 29 #[.string s] w fun e w' => e = .returned (pfV (parseFeetW s.data.toList)) ∧ Below w.heap.size w w' := by
  have hb0 : Below w.heap.size w (w.alloc (.cells #[.int .i64 0, .int .i64 0] 37)) := (Below.refl _ _).alloc (Nat.le_refl _) _
  have HT0 := Lib.hid (hT.below hb0)
  clear hT
  by_cases hlen : 10 < s.size
  · have hf := Lib.hid (parse_long (l := s.data.toList) (by rw [len_eq]; exact hlen))
    go_enter Tryd.func29, Tryd.ntmps29
    go_wp2_with fail
    refine bodyPost_ret (v := .tuple #[.agg #[.int .i64 0, .int .i64 0], .int .i64 6]) (by simp [results, Tryd.results29, go_sem]) rfl ⟨?_, ?_⟩
    · rw [hf.out]; rfl
    · exact hb0
  · go_enter Tryd.func29, Tryd.ntmps29
    go_wp2_with fail
    go_loopw [4] (fun i wr => ∃ d : Nat, 1 ≤ d ∧ d ≤ 16 ∧ i = .int .i64 d ∧ UnmetF s.data.toList d 1 ∧ Below (w.alloc (.cells #[.int .i64 0, .int .i64 0] 37)).heap.size (w.alloc (.cells #[.int .i64 0, .int .i64 0] 37)) wr) (fun i _ => 16 - (intOf i).toNat)
    case atStart => exact ⟨1, Nat.le_refl _, by omega, rfl, unmetF_0 _, Below.refl _ _⟩
    case round =>
      obtain ⟨d, hd1, hd, rfl, hu, hb1⟩ := hrel
      have hu1 := Lib.hid hu
      clear hu
      by_cases hlt : d < 16
      · have hdi : (d : Int) ≤ 15 := by omega
        have hd0 : 1 ≤ (d : Int) := by omega
        go_wp2_with fail
        go_loopw [5] (fun i wr => ∃ n : Nat, 1 ≤ n ∧ n ≤ 64 * d + 1 ∧ i = .int .i64 n ∧ UnmetF s.data.toList d n ∧ Below (w.alloc (.cells #[.int .i64 0, .int .i64 0] 37)).heap.size (w.alloc (.cells #[.int .i64 0, .int .i64 0] 37)) wr) (fun i _ => 64 * d + 1 - (intOf i).toNat)
        case atStart => exact ⟨1, Nat.le_refl _, by omega, rfl, hu1.out, hb1⟩
        case round =>
          clear hb1
          obtain ⟨n, hn1, hn, rfl, hu, hb1⟩ := hrel
          have hu2 := Lib.hid hu
          clear hu
          have hTr := Lib.hid (HT0.out.below hb1)
          obtain ⟨c0, c1, f0, f1, hlt1⟩ := new2 hb1
          by_cases hln : n ≤ 64 * d
          · have hni : (n : Int) ≤ 64 * (d : Int) := by omega
            have hn0 : 1 ≤ (n : Int) := by omega
            have hft := fun w hT => rfeet_any (n : Int) (d : Int) w hT (by omega) (by omega)
            by_cases hm : feetW (n : Int) (d : Int) = (s.data.toList, 0)
            · have hf := Lib.hid (back hm).1
              rw [hm] at hft
              simp only [strV] at hft
              have HF := Lib.hid hft
              have q1 : (s.toList == s.toList) = true := by simp
              clear hft hm
              go_wp2_with (go_at_call 27; refine (HF.out _ hTr.out).mono ?_; rintro e w3 ⟨rfl, hb3⟩; have c0' := cell_later hb3 c0; have c1' := cell_later hb3 c1; have f0' := (hb3.frozen (p := ⟨w.heap.size, 0, none⟩) hlt1).trans f0; have f1' := (hb3.frozen (p := ⟨w.heap.size, 1, none⟩) hlt1).trans f1)
              have hb4 := hb1.trans (hb3.mono hb1.size)
              refine bodyPost_ret (v := .tuple #[.agg #[.int .i64 n, .int .i64 d], .int .i64 0]) (by simp [results, Tryd.results29, c0', c1', go_sem]) rfl ⟨?_, ?_⟩
              · rw [hf.out]; rfl
              · exact ((hb0.trans (hb4.mono hb0.size)).setCell (p := ⟨w.heap.size, 0, none⟩) (Nat.le_refl _) _).setCell (p := ⟨w.heap.size, 1, none⟩) (Nat.le_refl _) _
            · have hun := Lib.hid (unmetF_n hu2.out hm)
              generalize feetW (n : Int) (d : Int) = y at *
              obtain ⟨txt, er⟩ := y
              simp only [strV] at hft
              have HF := Lib.hid hft
              clear hft
              by_cases her : er = 0
              · subst her
                have htx : txt ≠ s.data.toList := fun e => hm (by rw [e])
                have q1 : (txt == s.toList) = false := by rw [toL]; simp [htx]
                clear hm htx
                go_wp2_with (go_at_call 27; refine (HF.out _ hTr.out).mono ?_; rintro e w3 ⟨rfl, hb3⟩)
                go_roundw
                case rel => exact ⟨n + 1, by omega, by omega, by go_num, hun.out, hb1.trans (hb3.mono hb1.size)⟩
                case measure => simp [intOf]; omega
              · have q1 : (er == 0) = false := by simp [her]
                have q2 : (er != 0) = true := by simp [her]
                clear hm her
                go_wp2_with (go_at_call 27; refine (HF.out _ hTr.out).mono ?_; rintro e w3 ⟨rfl, hb3⟩)
                go_roundw
                case rel => exact ⟨n + 1, by omega, by omega, by go_num, hun.out, hb1.trans (hb3.mono hb1.size)⟩
                case measure => simp [intOf]; omega
          · have hun := Lib.hid (unmetF_d hu2.out (by omega))
            have hni : ¬ (n : Int) ≤ 64 * (d : Int) := by omega
            go_wp2_with fail
            go_roundw
            case rel => exact ⟨d + 1, by omega, by omega, by go_num, hun.out, hb1⟩
            case measure => simp [intOf]; omega
      · obtain rfl : d = 16 := by omega
        have hf := Lib.hid (unmetF_end hu1.out)
        obtain ⟨c0, c1, f0, f1, hlt1⟩ := new2 hb1
        go_wp2_with fail
        refine bodyPost_ret (v := .tuple #[.agg #[.int .i64 0, .int .i64 0], .int .i64 6]) (by simp [results, Tryd.results29, c0, c1, go_sem]) rfl ⟨?_, ?_⟩
        · rw [hf.out]; rfl
        · exact ((hb0.trans (hb1.mono hb0.size)).setCell (p := ⟨w.heap.size, 0, none⟩) (Nat.le_refl _) _).setCell (p := ⟨w.heap.size, 1, none⟩) (Nat.le_refl _) _
end Go.Proofs.YtdncfignegagjaaDoor
