import Derived.Test.YtdncfignegagjaaDoorRF2
namespace Go.Proofs.YtdncfignegagjaaDoor
open Go.RowKit

def backB (d n : Nat) : Bool := if footB (n : Int) (d : Int) then decide (parseFeetW (feetW n d).1 = (((n : Int), (d : Int)), 0)) && decide ((feetW n d).1.length ≤ 10) else true
set_option maxRecDepth 100000 in
theorem back_1 : ∀ (a : Fin 3) (b : Fin 32), backB 1 (32 * a.val + b.val) = true := by decide +kernel
set_option maxRecDepth 100000 in
theorem back_2 : ∀ (a : Fin 5) (b : Fin 32), backB 2 (32 * a.val + b.val) = true := by decide +kernel
set_option maxRecDepth 100000 in
theorem back_3 : ∀ (a : Fin 7) (b : Fin 32), backB 3 (32 * a.val + b.val) = true := by decide +kernel
set_option maxRecDepth 100000 in
theorem back_4 : ∀ (a : Fin 9) (b : Fin 32), backB 4 (32 * a.val + b.val) = true := by decide +kernel
set_option maxRecDepth 100000 in
theorem back_5 : ∀ (a : Fin 11) (b : Fin 32), backB 5 (32 * a.val + b.val) = true := by decide +kernel
set_option maxRecDepth 100000 in
theorem back_6 : ∀ (a : Fin 13) (b : Fin 32), backB 6 (32 * a.val + b.val) = true := by decide +kernel
set_option maxRecDepth 100000 in
theorem back_7 : ∀ (a : Fin 15) (b : Fin 32), backB 7 (32 * a.val + b.val) = true := by decide +kernel
set_option maxRecDepth 100000 in
theorem back_8 : ∀ (a : Fin 17) (b : Fin 32), backB 8 (32 * a.val + b.val) = true := by decide +kernel
set_option maxRecDepth 100000 in
theorem back_9 : ∀ (a : Fin 19) (b : Fin 32), backB 9 (32 * a.val + b.val) = true := by decide +kernel
set_option maxRecDepth 100000 in
theorem back_10 : ∀ (a : Fin 21) (b : Fin 32), backB 10 (32 * a.val + b.val) = true := by decide +kernel
set_option maxRecDepth 100000 in
theorem back_11 : ∀ (a : Fin 23) (b : Fin 32), backB 11 (32 * a.val + b.val) = true := by decide +kernel
set_option maxRecDepth 100000 in
theorem back_12 : ∀ (a : Fin 25) (b : Fin 32), backB 12 (32 * a.val + b.val) = true := by decide +kernel
set_option maxRecDepth 100000 in
theorem back_13 : ∀ (a : Fin 27) (b : Fin 32), backB 13 (32 * a.val + b.val) = true := by decide +kernel
set_option maxRecDepth 100000 in
theorem back_14 : ∀ (a : Fin 29) (b : Fin 32), backB 14 (32 * a.val + b.val) = true := by decide +kernel
set_option maxRecDepth 100000 in
theorem back_15 : ∀ (a : Fin 31) (b : Fin 32), backB 15 (32 * a.val + b.val) = true := by decide +kernel
theorem back_at (d n : Nat) (h1 : 1 ≤ d) (h2 : d ≤ 15) (h3 : n ≤ 64 * d) : backB d n = true := by
  have e : n = 32 * (n / 32) + n % 32 := by omega
  rw [e]
  rcases (by omega : d = 1 ∨ d = 2 ∨ d = 3 ∨ d = 4 ∨ d = 5 ∨ d = 6 ∨ d = 7 ∨ d = 8 ∨ d = 9 ∨ d = 10 ∨ d = 11 ∨ d = 12 ∨ d = 13 ∨ d = 14 ∨ d = 15) with rfl | rfl | rfl | rfl | rfl | rfl | rfl | rfl | rfl | rfl | rfl | rfl | rfl | rfl | rfl
  · exact back_1 ⟨n / 32, by omega⟩ ⟨n % 32, by omega⟩
  · exact back_2 ⟨n / 32, by omega⟩ ⟨n % 32, by omega⟩
  · exact back_3 ⟨n / 32, by omega⟩ ⟨n % 32, by omega⟩
  · exact back_4 ⟨n / 32, by omega⟩ ⟨n % 32, by omega⟩
  · exact back_5 ⟨n / 32, by omega⟩ ⟨n % 32, by omega⟩
  · exact back_6 ⟨n / 32, by omega⟩ ⟨n % 32, by omega⟩
  · exact back_7 ⟨n / 32, by omega⟩ ⟨n % 32, by omega⟩
  · exact back_8 ⟨n / 32, by omega⟩ ⟨n % 32, by omega⟩
  · exact back_9 ⟨n / 32, by omega⟩ ⟨n % 32, by omega⟩
  · exact back_10 ⟨n / 32, by omega⟩ ⟨n % 32, by omega⟩
  · exact back_11 ⟨n / 32, by omega⟩ ⟨n % 32, by omega⟩
  · exact back_12 ⟨n / 32, by omega⟩ ⟨n % 32, by omega⟩
  · exact back_13 ⟨n / 32, by omega⟩ ⟨n % 32, by omega⟩
  · exact back_14 ⟨n / 32, by omega⟩ ⟨n % 32, by omega⟩
  · exact back_15 ⟨n / 32, by omega⟩ ⟨n % 32, by omega⟩
end Go.Proofs.YtdncfignegagjaaDoor
