/- Plain: where a key stands, sets with a key, and without. -/
import Derived.Test.YtimhophelecmjaaGenA
namespace Go.Proofs.Ytimhophelecmjaa
/-- how many are below k -/
def lowI (k : K32) (l : List K32) : Nat := l.countP fun x => ltK x k
/-- where k first stands, or would be set -/
def placeI (k : K32) (l : List K32) : Nat := if k ∈ l then l.idxOf k else l.findIdx fun x => ltK k x
theorem lowI_le (k : K32) (l : List K32) : lowI k l ≤ l.length := List.countP_le_length
theorem low_find (k : K32) : ∀ l, Rises l → lowI k l = l.findIdx fun x => !ltK x k
  | [], _ => rfl
  | a :: l, h => by
    have h' := List.pairwise_cons.1 h
    unfold lowI
    rw [List.findIdx_cons, List.countP_cons]
    cases hc : ltK a k with
    | true =>
      simp only [Bool.not_true, cond_false, if_true]
      have := low_find k l h'.2
      unfold lowI at this
      rw [this]
    | false =>
      simp only [Bool.not_false, cond_true]
      have : l.countP (fun x => ltK x k) = 0 := by
        rw [List.countP_eq_zero]
        intro x hx
        rw [ltK_ntrans (h'.1 x hx) hc]
        simp
      simp [this]
theorem find_idx (k : K32) : ∀ l, Rises l → k ∈ l → (l.findIdx fun x => !ltK x k) = l.idxOf k
  | [], _, h => by cases h
  | a :: l, h, hm => by
    have h' := List.pairwise_cons.1 h
    rw [List.findIdx_cons, List.idxOf_cons]
    by_cases e : a = k
    · subst e; simp [ltK_irrefl]
    · have hm' : k ∈ l := by
        rcases List.mem_cons.1 hm with h1 | h1
        · exact absurd h1.symm e
        · exact h1
      have hlt : ltK a k = true := by
        cases hc : ltK a k with
        | true => rfl
        | false => exact absurd (ltK_tri hc (h'.1 k hm')) e
      rw [hlt]
      have : (a == k) = false := beq_eq_false_iff_ne.mpr e
      simp only [Bool.not_true, cond_false, this]
      rw [find_idx k l h'.2 hm']
theorem find_congr (k : K32) (l : List K32) (h : k ∉ l) : (l.findIdx fun x => !ltK x k) = l.findIdx fun x => ltK k x := by
  induction l with
  | nil => rfl
  | cons a l ih =>
    have ha : a ≠ k := fun e => h (by simp [e])
    have hl : k ∉ l := fun e => h (by simp [e])
    rw [List.findIdx_cons, List.findIdx_cons, ih hl]
    cases h1 : ltK a k with
    | true => rw [ltK_asym h1]; rfl
    | false =>
      cases h2 : ltK k a with
      | true => rfl
      | false => exact absurd (ltK_tri h1 h2) ha
theorem low_place (k : K32) (l : List K32) (h : Rises l) : lowI k l = placeI k l := by
  unfold placeI
  rw [low_find k l h]
  split
  · rename_i hm; exact find_idx k l h hm
  · rename_i hm; exact find_congr k l hm
theorem placeI_le (k : K32) (l : List K32) : placeI k l ≤ l.length := by
  unfold placeI
  split
  · exact List.idxOf_le_length
  · exact List.findIdx_le_length
theorem placeI_lt (k : K32) (l : List K32) (h : k ∈ l) : placeI k l < l.length := by
  unfold placeI; rw [if_pos h]; exact List.idxOf_lt_length_of_mem h
theorem low_is (k : K32) (l : List K32) (h : Rises l) : (∃ hlt : lowI k l < l.length, l[lowI k l] = k) ↔ k ∈ l := by
  constructor
  · rintro ⟨hlt, e⟩; rw [← e]; exact List.getElem_mem hlt
  · intro hm
    have e : lowI k l = l.idxOf k := by rw [low_place k l h]; unfold placeI; rw [if_pos hm]
    have hlt : lowI k l < l.length := by rw [e]; exact List.idxOf_lt_length_of_mem hm
    refine ⟨hlt, ?_⟩
    have : l[l.idxOf k]'(List.idxOf_lt_length_of_mem hm) = k := List.getElem_idxOf _
    simp only [e]
    exact this
theorem putK_place (k : K32) : ∀ l, putK k l = l.take (l.findIdx fun x => ltK k x) ++ k :: l.drop (l.findIdx fun x => ltK k x)
  | [] => rfl
  | a :: l => by
    rw [List.findIdx_cons]
    unfold putK
    cases h : ltK k a with
    | true => simp
    | false => simp [putK_place k l]
def insK (k : K32) (l : List K32) : List K32 := if k ∈ l then l else putK k l
theorem erase_place (k : K32) (l : List K32) (h : k ∈ l) : l.erase k = l.take (placeI k l) ++ l.drop (placeI k l + 1) := by
  unfold placeI
  rw [if_pos h, List.erase_eq_eraseIdx_of_idxOf rfl, List.eraseIdx_eq_take_drop_succ]
theorem ins_place (k : K32) (l : List K32) (h : k ∉ l) : insK k l = l.take (placeI k l) ++ k :: l.drop (placeI k l) := by
  unfold insK placeI
  rw [if_neg h, if_neg h, putK_place]
/-- the runs of equal ones side by side -/
def runs : List K32 → Nat
  | [] => 0
  | [_] => 1
  | a :: b :: l => (if a = b then 0 else 1) + runs (b :: l)
theorem runs_snoc : ∀ (l : List K32) (a b : K32), runs (l ++ [a, b]) = runs (l ++ [a]) + if a = b then 0 else 1
  | [], a, b => by simp [runs]; omega
  | [c], a, b => by simp [runs]; omega
  | c :: d :: l, a, b => by
    have := runs_snoc (d :: l) a b
    simp only [List.cons_append, runs] at this ⊢
    omega
theorem runs_take (l : List K32) (j : Nat) (hj : j + 1 < l.length) : runs (l.take (j + 2)) = runs (l.take (j + 1)) + if l[j]'(by omega) = l[j + 1] then 0 else 1 := by
  have h2 : l.take (j + 1) = l.take j ++ [l[j]'(by omega)] := by
    rw [List.take_add_one, List.getElem?_eq_getElem (by omega)]; rfl
  have h3 : l.take (j + 2) = l.take (j + 1) ++ [l[j + 1]] := by
    rw [show j + 2 = (j + 1) + 1 from rfl, List.take_add_one (i := j + 1), List.getElem?_eq_getElem hj]; rfl
  have h1 : l.take (j + 2) = l.take j ++ [l[j]'(by omega), l[j + 1]] := by rw [h3, h2, List.append_assoc]; rfl
  rw [h1, h2, runs_snoc]
theorem runs_le : ∀ l : List K32, runs l ≤ l.length
  | [] => Nat.le_refl _
  | [_] => Nat.le_refl _
  | a :: b :: l => by have := runs_le (b :: l); simp only [runs, List.length_cons] at this ⊢; split <;> omega
theorem runs_all : ∀ l : List K32, Rises l → (runs l = l.length ↔ l.Nodup)
  | [], _ => by simp [runs]
  | [a], _ => by simp [runs]
  | a :: b :: l, h => by
    have h' := List.pairwise_cons.1 h
    have ih := runs_all (b :: l) h'.2
    have hle := runs_le (b :: l)
    simp only [runs, List.length_cons] at ih hle ⊢
    by_cases e : a = b
    · subst e
      rw [if_pos rfl]
      constructor
      · intro hq; omega
      · intro hq; exact absurd (List.nodup_cons.1 hq).1 (by simp)
    · rw [if_neg e, List.nodup_cons]
      have hb' := List.pairwise_cons.1 h'.2
      have hna : a ∉ b :: l := by
        intro hm
        rcases List.mem_cons.1 hm with h1 | h1
        · exact e h1
        · have g1 := hb'.1 a h1
          have g2 := h'.1 b (by simp)
          exact e (ltK_tri g1 g2)
      constructor
      · intro hq; exact ⟨hna, ih.1 (by omega)⟩
      · intro hq; have := ih.2 hq.2; omega
theorem distinct_iff (l : List K32) : runs (sortK l) = l.length ↔ l.Nodup := by
  rw [← sortK_len l, runs_all _ (sortK_rises l)]
  exact (sortK_perm l).nodup_iff
end Go.Proofs.Ytimhophelecmjaa
