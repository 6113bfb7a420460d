/- Plain: the last ones of a list; a ring of the last roots. -/
import Derived.Test.YtiifamfophbbcaaCellA
namespace Go.Proofs.Ytiifamfophbbcaa
section
variable {α : Type}
def lastN (n : Nat) (l : List α) : List α := l.drop (l.length - n)
theorem lastN_len (n : Nat) (l : List α) : (lastN n l).length = min l.length n := by unfold lastN; rw [List.length_drop]; omega
theorem lastN_all {n : Nat} {l : List α} (h : l.length ≤ n) : lastN n l = l := by unfold lastN; rw [show l.length - n = 0 by omega, List.drop_zero]
theorem lastN_zero (l : List α) : lastN 0 l = [] := by unfold lastN; rw [Nat.sub_zero, List.drop_length]
theorem lastN_app {n : Nat} (p c : List α) (h : n ≤ c.length) : lastN n (p ++ c) = lastN n c := by
  unfold lastN
  rw [List.length_append, List.drop_append, List.drop_of_length_le (by omega), List.nil_append, show p.length + c.length - n - p.length = c.length - n by omega]
theorem lastN_lastN {n m : Nat} (h : n ≤ m) (a : List α) : lastN n (lastN m a) = lastN n a := by
  by_cases hm : a.length ≤ m
  · rw [lastN_all hm]
  · have e : a = a.take (a.length - m) ++ lastN m a := (List.take_append_drop _ a).symm
    have h2 := lastN_app (n := n) (a.take (a.length - m)) (lastN m a) (by rw [lastN_len]; omega)
    rw [← e] at h2
    exact h2.symm
theorem lastN_put {n m : Nat} (h : n ≤ m + 1) (a c : List α) (hc : c.length = 1) : lastN n (lastN m a ++ c) = lastN n (a ++ c) := by
  by_cases hm : a.length ≤ m
  · rw [lastN_all hm]
  · have e : a ++ c = a.take (a.length - m) ++ (lastN m a ++ c) := by rw [← List.append_assoc]; unfold lastN; rw [List.take_append_drop]
    rw [e]
    exact (lastN_app (a.take (a.length - m)) (lastN m a ++ c) (by rw [List.length_append, lastN_len]; omega)).symm
/-- one more from the end -/
theorem lastN_succ (a : List α) (i : Nat) (h : i < a.length) : lastN (i + 1) a = a[a.length - 1 - i]'(by omega) :: lastN i a := by
  unfold lastN
  rw [show a.length - (i + 1) = a.length - 1 - i by omega, List.drop_eq_getElem_cons (by omega)]
  congr 2
  omega
theorem lastN_mem (a : List α) (i n : Nat) (h : i < a.length) (hn : i < n) : a[a.length - 1 - i]'(by omega) ∈ lastN n a := by
  unfold lastN
  rw [List.mem_iff_getElem]
  refine ⟨a.length - 1 - i - (a.length - n), by rw [List.length_drop]; omega, ?_⟩
  rw [List.getElem_drop]
  congr 1
  omega
theorem mem_last (p c : List α) (k : α) (h : k ∉ c) : k ∈ lastN 4 (p ++ k :: c) ↔ c.length < 4 := by
  constructor
  · intro hm
    apply Classical.byContradiction
    intro hn
    have e : p ++ k :: c = (p ++ [k]) ++ c := by simp
    rw [e, lastN_app _ _ (by omega)] at hm
    exact h (List.mem_of_mem_drop hm)
  · intro hlt
    have := lastN_mem (p ++ k :: c) c.length 4 (by simp <;> omega) hlt
    have e : (p ++ k :: c)[(p ++ k :: c).length - 1 - c.length]'(by simp <;> omega) = k := by
      rw [List.getElem_append_right (by simp)]
      simp
    rwa [e] at this
theorem back_last (m : Nat) (b : List α) (h : 2 ≤ (lastN (m + 1) b).length) : (lastN (m + 1) b).take ((lastN (m + 1) b).length - 1) = lastN m (b.take (b.length - 1)) := by
  rw [lastN_len] at h ⊢
  unfold lastN
  rw [List.length_take, List.take_drop]
  congr 1
  · omega
  · congr 1
    omega
end
abbrev hasR (r : List K32) (k : K32) : Bool := decide (k ∈ lastN 4 r)
def putR (r : List K32) (k : K32) : List K32 := lastN 8 (r ++ [k])
def backR (r : List K32) : List K32 := if r.length < 2 then [] else r.take (r.length - 1)
def backE (r : List K32) : Int := if r.length < 2 then 166 else 0
def lastR (r : List K32) : K32 := r.getLast?.getD zeroKey
theorem putR_of (a : List K32) (k : K32) : putR (lastN 8 a) k = lastN 8 (a ++ [k]) := lastN_put (by omega) a [k] rfl
theorem putR_len (r : List K32) (k : K32) : (putR r k).length = min (r.length + 1) 8 := by unfold putR; rw [lastN_len]; simp
theorem hasR_of (a : List K32) (k : K32) : hasR (lastN 8 a) k = decide (k ∈ lastN 4 a) := by unfold hasR; rw [lastN_lastN (by omega)]
theorem lastR_of (a : List K32) (k : K32) : lastR (lastN 8 (a ++ [k])) = k := by
  unfold lastR lastN
  rw [List.getLast?_drop, if_neg (by simp; omega)]
  simp
theorem lastR_get (r : List K32) (h : 0 < r.length) : lastR r = r[r.length - 1]'(by omega) := by
  unfold lastR
  rw [List.getLast?_eq_getElem?, List.getElem?_eq_getElem (by omega)]
  rfl
/-- what is left of a ring of a's last ones behind j undoings -/
def undoR (a : List K32) (j : Nat) : List K32 := lastN (8 - j) (a.take (a.length - j))
theorem undoR_zero (a : List K32) : undoR a 0 = lastN 8 a := by unfold undoR; rw [Nat.sub_zero, Nat.sub_zero, List.take_length]
theorem undoR_len (a : List K32) (j : Nat) : (undoR a j).length = min (a.length - j) (8 - j) := by unfold undoR; rw [lastN_len, List.length_take]; omega
theorem undoR_back (a : List K32) (j : Nat) (hj : j < 4) (h : 2 ≤ a.length - j) : backR (undoR a j) = undoR a (j + 1) ∧ backE (undoR a j) = 0 := by
  have hl := undoR_len a j
  unfold backR backE
  rw [if_neg (by omega), if_neg (by omega)]
  refine ⟨?_, rfl⟩
  unfold undoR
  have hb := back_last (7 - j) (a.take (a.length - j)) (by rw [lastN_len, List.length_take]; omega)
  rw [show 7 - j + 1 = 8 - j by omega] at hb
  rw [hb, show 7 - j = 8 - (j + 1) by omega]
  congr 1
  rw [List.length_take, List.take_take]
  congr 1
  omega
theorem undoR_has (a : List K32) (j i : Nat) (hj : j ≤ 4) (hi : i < 4) (h : i < (a.take (a.length - j)).length) : hasR (undoR a j) ((a.take (a.length - j))[(a.take (a.length - j)).length - 1 - i]'(by omega)) = true := by
  unfold hasR undoR
  rw [lastN_lastN (by omega)]
  exact decide_eq_true (lastN_mem _ i 4 h hi)
end Go.Proofs.Ytiifamfophbbcaa
