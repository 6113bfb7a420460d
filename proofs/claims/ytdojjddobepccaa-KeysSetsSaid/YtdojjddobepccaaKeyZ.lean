/- Plain: what a list has of a set, each once. -/
import Derived.Test.YtdojjddobepccaaKeyX
namespace Go.Proofs.Ytdojjddobepccaa
theorem setOf_mem {x : K32} {l : List K32} : x ∈ setOf l ↔ x ∈ l := by
  have h : ∀ (l s : List K32), x ∈ l.foldl (fun s k => insK k s) s ↔ x ∈ s ∨ x ∈ l := by
    intro l
    induction l with
    | nil => intro s; simp
    | cons a l ih =>
      intro s
      rw [List.foldl_cons, ih, insK_mem, List.mem_cons]
      constructor
      · rintro ((h | h) | h) <;> simp [h]
      · rintro (h | h | h) <;> simp [h]
  have := h l []
  simpa [setOf] using this
/-- how many of l's first j keys are in s, each counted once -/
def cntS (l s : List K32) (j : Nat) : Nat := ((setOf (l.take j)).filter (fun x => decide (x ∈ s))).length
theorem cntS_zero (l s : List K32) : cntS l s 0 = 0 := by simp [cntS, setOf]
theorem cntS_le (l s : List K32) (j : Nat) : cntS l s j ≤ j := by
  unfold cntS
  have h1 := List.length_filter_le (fun x => decide (x ∈ s)) (setOf (l.take j))
  have h2 := setOf_len (l.take j)
  rw [List.length_take] at h2
  omega
theorem cntS_old (l s : List K32) (j : Nat) (hj : j < l.length) (h : l[j] ∈ l.take j ∨ l[j] ∉ s) : cntS l s (j + 1) = cntS l s j := by
  unfold cntS
  rw [show l.take (j + 1) = l.take j ++ [l[j]] by rw [List.take_append_getElem hj], setOf_snoc]
  by_cases hm : l[j] ∈ l.take j
  · unfold insK
    rw [if_pos (setOf_mem.2 hm)]
  · have hs : l[j] ∉ s := h.resolve_left hm
    unfold insK
    rw [if_neg (fun q => hm (setOf_mem.1 q)), ((putK_perm l[j] (setOf (l.take j))).filter _).length_eq, List.filter_cons_of_neg (by simpa using hs)]
theorem cntS_new (l s : List K32) (j : Nat) (hj : j < l.length) (h1 : l[j] ∉ l.take j) (h2 : l[j] ∈ s) : cntS l s (j + 1) = cntS l s j + 1 := by
  unfold cntS
  rw [show l.take (j + 1) = l.take j ++ [l[j]] by rw [List.take_append_getElem hj], setOf_snoc]
  unfold insK
  rw [if_neg (fun q => h1 (setOf_mem.1 q)), ((putK_perm l[j] (setOf (l.take j))).filter _).length_eq, List.filter_cons_of_pos (by simpa using h2), List.length_cons]
theorem cntS_all (l s : List K32) (hs : IsSet s) (h : ∀ x ∈ s, x ∈ l) : cntS l s l.length = s.length := by
  unfold cntS
  rw [List.take_length]
  have hn : ((setOf l).filter (fun x => decide (x ∈ s))).Nodup := (setOf_set l).nodup.filter _
  refine ((List.perm_ext_iff_of_nodup hn hs.nodup).2 fun x => ?_).length_eq
  rw [List.mem_filter, setOf_mem]
  exact ⟨fun q => of_decide_eq_true q.2, fun q => ⟨h x q, decide_eq_true q⟩⟩
end Go.Proofs.Ytdojjddobepccaa
