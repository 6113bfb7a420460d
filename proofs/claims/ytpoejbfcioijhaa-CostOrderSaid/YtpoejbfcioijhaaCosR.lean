/- CostRight: plain facts. -/
import Derived.Test.YtpoejbfcioijhaaLCoL
namespace Go.Proofs.Ytpoejbfcioijhaa
open Go.RowKit
theorem cos_sum_rep (z : IntV .i64) : ∀ n : Nat, sumI (List.replicate n z) = z.1 * n
  | 0 => by simp [sumI]
  | n + 1 => by
    rw [List.replicate_succ, sumI, cos_sum_rep z n]
    have : ((n + 1 : Nat) : Int) = (n : Int) + 1 := by omega
    rw [this, Int.mul_add, Int.mul_one]
    omega
theorem cos_all_rep (z : IntV .i64) (n : Nat) : (List.replicate n z).all okW = (decide (n = 0) || okW z) := by
  cases n with
  | zero => rfl
  | succ n =>
    simp [List.replicate_succ]
    intro h
    exact .inr h
theorem cos_sumW (z : IntV .i64) (n : Nat) (hn : n ≤ 1000) (h : n = 0 ∨ okW z = true) : sumW (List.replicate n z) = some (z.1 * n) := by
  rw [sumW_ok (by rw [cos_all_rep]; rcases h with h | h <;> simp [h]) (by rw [List.length_replicate]; exact hn), cos_sum_rep]
theorem cos_sumW_bad (z : IntV .i64) (n : Nat) (hn : 0 < n) (h : okW z = false) : sumW (List.replicate n z) = none :=
  sumW_bad (x := z) (by rw [List.mem_replicate]; exact ⟨by omega, rfl⟩) h
theorem cos_sumW_long (z : IntV .i64) (n : Nat) (hn : 1000 < n) : sumW (List.replicate n z) = none := sumW_long (by rw [List.length_replicate]; exact hn)
theorem cos_pickN (z : IntV .i64) (hz : 1 ≤ z.1) : ∀ (n : Nat) (r : Int), 0 ≤ r → r < z.1 * n → ((pickN r (List.replicate n z) : Nat) : Int) = r / z.1
  | 0, r, h0, h1 => by simp at h1; omega
  | n + 1, r, h0, h1 => by
    rw [List.replicate_succ, pickN]
    by_cases hr : r < z.1
    · rw [if_pos hr, Int.ediv_eq_zero_of_lt h0 hr]
      rfl
    · rw [if_neg hr]
      have e : ((n + 1 : Nat) : Int) = (n : Int) + 1 := by omega
      rw [e, Int.mul_add, Int.mul_one] at h1
      have ih := cos_pickN z hz n (r - z.1) (by omega) (by omega)
      have h2 : (r - z.1) / z.1 = r / z.1 - 1 := by
        have := Int.add_mul_ediv_right r (-1) (show z.1 ≠ 0 by omega)
        rw [show r + -1 * z.1 = r - z.1 by omega] at this
        omega
      push_cast
      rw [ih, h2]
      omega
end Go.Proofs.Ytpoejbfcioijhaa
