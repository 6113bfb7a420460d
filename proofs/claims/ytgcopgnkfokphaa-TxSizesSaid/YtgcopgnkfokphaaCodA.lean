/- codec's leaves: may, shape, and how many bits the greatest numbers have. -/
import Derived.Test.YtgcopgnkfokphaaCodS
namespace Go.Proofs.Ytgcopgnkfokphaa
open Go.RowKit
def mayW (wd : Int) : Bool := decide (1 ≤ wd) && decide (wd ≤ 8)
theorem may_any (wd : Int) (w : World) :
    Calls Try.prog 50 #[.int .i64 wd] w fun e w' => e = .returned (.bool (mayW wd)) ∧ w' = w := by
  by_cases h1 : 1 ≤ wd
  · by_cases h8 : wd ≤ 8
    · rw [show mayW wd = true by simp [mayW, h1, h8]]
      go_enter Try.func50, Try.ntmps50
      go_wp2
      go_ret
      exact ⟨rfl, rfl⟩
    · rw [show mayW wd = false by simp [mayW, h8]]
      go_enter Try.func50, Try.ntmps50
      go_wp2
      go_ret
      exact ⟨rfl, rfl⟩
  · rw [show mayW wd = false by simp [mayW, h1]]
    go_enter Try.func50, Try.ntmps50
    go_wp2
    go_ret
    exact ⟨rfl, rfl⟩
/-- how many bytes a number has behind its mark -/
def wdN (n : Nat) : Nat := if n < 253 then 1 else if n ≤ 65535 then 2 else if n ≤ 4294967295 then 4 else 8
def mkN (n : Nat) : Nat := if n < 253 then 252 else if n ≤ 65535 then 253 else if n ≤ 4294967295 then 254 else 255
set_option maxRecDepth 20000 in
theorem shape_any (n : Nat) (w : World) :
    Calls Try.prog 51 #[.int .u64 n] w fun e w' => e = .returned (.tuple #[.int .u64 (mkN n), .int .i64 (wdN n)]) ∧ w' = w := by
  by_cases h1 : n < 253
  · rw [show mkN n = 252 by simp [mkN, h1], show wdN n = 1 by simp [wdN, h1]]
    go_enter Try.func51, Try.ntmps51
    go_wp2
    go_ret2
    exact ⟨rfl, rfl⟩
  by_cases h2 : n ≤ 65535
  · rw [show mkN n = 253 by simp [mkN, h1, h2], show wdN n = 2 by simp [wdN, h1, h2]]
    go_enter Try.func51, Try.ntmps51
    go_wp2
    go_ret2
    exact ⟨rfl, rfl⟩
  by_cases h3 : n ≤ 4294967295
  · rw [show mkN n = 254 by simp [mkN, h1, h2, h3], show wdN n = 4 by simp [wdN, h1, h2, h3]]
    go_enter Try.func51, Try.ntmps51
    go_wp2
    go_ret2
    exact ⟨rfl, rfl⟩
  rw [show mkN n = 255 by simp [mkN, h1, h2, h3], show wdN n = 8 by simp [wdN, h1, h2, h3]]
  go_enter Try.func51, Try.ntmps51
  go_wp2
  go_ret2
  exact ⟨rfl, rfl⟩
set_option maxRecDepth 20000 in
theorem len16 (w : World) : Calls Try.prog 68 #[.int .u64 65535] w fun e w' => e = .returned (.int .i64 16) ∧ w' = w := by
  go_enter Try.func68, Try.ntmps68
  go_wp2
  go_ret
  exact ⟨by kernel_rfl, rfl⟩
set_option maxRecDepth 20000 in
theorem len32 (w : World) : Calls Try.prog 68 #[.int .u64 4294967295] w fun e w' => e = .returned (.int .i64 32) ∧ w' = w := by
  go_enter Try.func68, Try.ntmps68
  go_wp2
  go_ret
  exact ⟨by kernel_rfl, rfl⟩
set_option maxRecDepth 20000 in
theorem len64 (w : World) : Calls Try.prog 68 #[.int .u64 18446744073709551615] w fun e w' => e = .returned (.int .i64 64) ∧ w' = w := by
  go_enter Try.func68, Try.ntmps68
  go_wp2
  go_ret
  exact ⟨by kernel_rfl, rfl⟩
end Go.Proofs.Ytgcopgnkfokphaa
