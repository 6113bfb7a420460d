/- Money, plain: a sum is all its numbers, if each may be, and all of them. -/
import Derived.Test.YtjepngicnocjiaaMonP
namespace Go.Proofs.Ytjepngicnocjiaa
theorem sum_ge_all : ∀ (l : List Int), l.all mayB = true → 0 ≤ l.sum
  | [], _ => by simp
  | a :: l, h => by
    simp only [List.all_cons, Bool.and_eq_true] at h
    have h1 := mayB_yes h.1
    have h2 := sum_ge_all l h.2
    simp only [List.sum_cons]
    omega
theorem sumO_eq : ∀ (l : List Int) (t : Int), mayB t = true → sumO t l = if l.all mayB && mayB (t + l.sum) then some (t + l.sum) else none
  | [], t, ht => by simp [sumO, ht]
  | a :: l, t, ht => by
    simp only [sumO, List.all_cons, List.sum_cons]
    by_cases ha : mayB a = true
    · by_cases hs : mayB (t + a) = true
      · have h1 : addO t a = some (t + a) := by simp [addO, ht, ha, hs]
        rw [h1]
        simp only [sumO_eq l (t + a) hs]
        rw [show t + a + l.sum = t + (a + l.sum) by omega]
        simp [ha]
      · have hs : mayB (t + a) = false := by simpa using hs
        have h1 : addO t a = none := by simp [addO, hs]
        rw [h1]
        by_cases hl : l.all mayB = true
        · have g1 := sum_ge_all l hl
          have g2 := mayB_yes ht
          have g3 := mayB_yes ha
          have g4 := mayB_no hs
          have h2 : mayB (t + (a + l.sum)) = false := mayB_mk_no (.inr (by omega))
          simp [h2]
        · have hl : l.all mayB = false := by simpa using hl
          simp [hl]
    · have ha : mayB a = false := by simpa using ha
      have : addO t a = none := by simp [addO, ha]
      simp [this, ha]
theorem sumO_rev (l : List Int) : sumO 0 l.reverse = sumO 0 l := by
  rw [sumO_eq _ 0 (by decide), sumO_eq _ 0 (by decide)]
  simp
end Go.Proofs.Ytjepngicnocjiaa
