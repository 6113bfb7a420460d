/- Plain: sets stay sets. -/
import Derived.Test.YtklfbconbkbmpaaKeyQ
namespace Go.Proofs.Ytklfbconbkbmpaa
theorem insK_mem {k x : K32} {l : List K32} : x ∈ insK k l ↔ x = k ∨ x ∈ l := by
  unfold insK
  split
  · rename_i h
    exact ⟨Or.inr, fun h1 => h1.elim (fun e => e ▸ h) id⟩
  · exact putK_mem
theorem putK_set (k : K32) : ∀ l, IsSet l → k ∉ l → IsSet (putK k l)
  | [], _, _ => by simp [putK]
  | a :: l, h, hk => by
    have h' := List.pairwise_cons.1 h
    unfold putK
    split
    · rename_i hlt
      refine List.pairwise_cons.2 ⟨fun x hx => ?_, h⟩
      rcases List.mem_cons.1 hx with rfl | hx
      · exact hlt
      · exact ltK_trans hlt (h'.1 x hx)
    · rename_i hlt
      have hak : ltK a k = true := by
        cases hc : ltK a k with
        | true => rfl
        | false => exact absurd (ltK_tri hc (by simpa using hlt)) (fun e => hk (by simp [e]))
      refine List.pairwise_cons.2 ⟨fun x hx => ?_, putK_set k l h'.2 (fun hm => hk (by simp [hm]))⟩
      rcases putK_mem.1 hx with rfl | hx
      · exact hak
      · exact h'.1 x hx
theorem insK_set {k : K32} {l : List K32} (h : IsSet l) : IsSet (insK k l) := by
  unfold insK
  split
  · exact h
  · rename_i hk; exact putK_set k l h hk
theorem IsSet.nodup {l : List K32} (h : IsSet l) : l.Nodup := h.imp fun hlt e => by rw [e, ltK_irrefl] at hlt; cases hlt
theorem IsSet.erase {l : List K32} (h : IsSet l) (k : K32) : IsSet (l.erase k) := h.sublist List.erase_sublist
theorem insK_len (k : K32) (l : List K32) : (insK k l).length ≤ l.length + 1 := by
  unfold insK
  split
  · omega
  · rw [(putK_perm k l).length_eq]; simp
def setOf (l : List K32) : List K32 := l.foldl (fun s k => insK k s) []
theorem setOf_snoc (l : List K32) (x : K32) : setOf (l ++ [x]) = insK x (setOf l) := by unfold setOf; rw [List.foldl_append]; rfl
theorem setOf_set (l : List K32) : IsSet (setOf l) := by
  have h : ∀ (l s : List K32), IsSet s → IsSet (l.foldl (fun s k => insK k s) s) := by
    intro l
    induction l with
    | nil => intro s hs; exact hs
    | cons a l ih => intro s hs; exact ih _ (insK_set hs)
  exact h l [] List.Pairwise.nil
theorem setOf_len (l : List K32) : (setOf l).length ≤ l.length := by
  have h : ∀ (l s : List K32), (l.foldl (fun s k => insK k s) s).length ≤ s.length + l.length := by
    intro l
    induction l with
    | nil => intro s; exact Nat.le_refl _
    | cons a l ih => intro s; have := ih (insK a s); have := insK_len a s; simp only [List.foldl_cons, List.length_cons]; omega
  have := h l []
  rw [List.length_nil, Nat.zero_add] at this
  exact this
end Go.Proofs.Ytklfbconbkbmpaa
