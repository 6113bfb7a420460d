/- Plain: sets of nullifiers, spent and undone. -/
import Derived.Test.YtklfbconbkbmpaaKeyX
import Derived.Test.YtklfbconbkbmpaaKeyN
namespace Go.Proofs.Ytklfbconbkbmpaa
def addL (s l : List K32) : List K32 := l.foldl (fun s k => insK k s) s
theorem addL_nil (s : List K32) : addL s [] = s := rfl
theorem addL_cons (s : List K32) (k : K32) (l : List K32) : addL s (k :: l) = addL (insK k s) l := rfl
theorem addL_app (s l m : List K32) : addL s (l ++ m) = addL (addL s l) m := by unfold addL; rw [List.foldl_append]
theorem addL_snoc (s l : List K32) (x : K32) : addL s (l ++ [x]) = insK x (addL s l) := by rw [addL_app]; rfl
theorem addL_mem {x : K32} : ∀ {l s : List K32}, x ∈ addL s l ↔ x ∈ s ∨ x ∈ l
  | [], s => by simp [addL]
  | k :: l, s => by
    rw [addL_cons, addL_mem, insK_mem, List.mem_cons]
    constructor
    · rintro ((h | h) | h)
      · exact .inr (.inl h)
      · exact .inl h
      · exact .inr (.inr h)
    · rintro (h | h | h)
      · exact .inl (.inr h)
      · exact .inl (.inl h)
      · exact .inr h
theorem addL_set : ∀ {l s : List K32}, IsSet s → IsSet (addL s l)
  | [], _, h => h
  | k :: l, s, h => by rw [addL_cons]; exact addL_set (insK_set h)
theorem addL_le : ∀ (l s : List K32), (addL s l).length ≤ s.length + l.length
  | [], s => Nat.le_refl _
  | k :: l, s => by
    have := addL_le l (insK k s)
    have := insK_len k s
    rw [addL_cons, List.length_cons]
    omega
theorem addL_len : ∀ (l s : List K32), l.Nodup → (∀ x ∈ l, x ∉ s) → (addL s l).length = s.length + l.length
  | [], s, _, _ => rfl
  | k :: l, s, hn, hd => by
    rw [List.nodup_cons] at hn
    have hk : k ∉ s := hd k (by simp)
    have hi : (insK k s).length = s.length + 1 := by unfold insK; rw [if_neg hk, (putK_perm k s).length_eq]; simp
    rw [addL_cons, addL_len l (insK k s) hn.2 (fun x hx => by rw [insK_mem]; rintro (e | h); exact hn.1 (e ▸ hx); exact hd x (by simp [hx]) h), hi, List.length_cons]
    omega
theorem set_ext : ∀ {a b : List K32}, IsSet a → IsSet b → (∀ x, x ∈ a ↔ x ∈ b) → a = b
  | [], [], _, _, _ => rfl
  | [], y :: b, _, _, h => absurd ((h y).2 (by simp)) (by simp)
  | x :: a, [], _, _, h => absurd ((h x).1 (by simp)) (by simp)
  | x :: a, y :: b, ha, hb, h => by
    have ha' := List.pairwise_cons.1 ha
    have hb' := List.pairwise_cons.1 hb
    have hxy : x = y := by
      rcases List.mem_cons.1 ((h x).1 (by simp)) with e | h1
      · exact e
      · rcases List.mem_cons.1 ((h y).2 (by simp)) with e | h2
        · exact e.symm
        · have h3 := ltK_trans (hb'.1 x h1) (ha'.1 y h2)
          rw [ltK_irrefl] at h3
          cases h3
    subst hxy
    congr 1
    refine set_ext ha'.2 hb'.2 fun z => ?_
    constructor
    · intro hz
      rcases List.mem_cons.1 ((h z).1 (by simp [hz])) with e | h1
      · subst e; have := ha'.1 z hz; rw [ltK_irrefl] at this; cases this
      · exact h1
    · intro hz
      rcases List.mem_cons.1 ((h z).2 (by simp [hz])) with e | h1
      · subst e; have := hb'.1 z hz; rw [ltK_irrefl] at this; cases this
      · exact h1
def freeN (s l : List K32) : Bool := !(meetF s l) && decide l.Nodup
theorem meetF_iff {s l : List K32} : meetF s l = true ↔ ∃ x ∈ l, x ∈ s := by
  unfold meetF
  rw [List.any_eq_true]
  simp
theorem freeN_iff {s l : List K32} : freeN s l = true ↔ (∀ x ∈ l, x ∉ s) ∧ l.Nodup := by
  unfold freeN
  rw [Bool.and_eq_true, Bool.not_eq_true', decide_eq_true_iff, ← Bool.not_eq_true, meetF_iff]
  constructor
  · rintro ⟨h1, h2⟩
    exact ⟨fun x hx hs => h1 ⟨x, hx, hs⟩, h2⟩
  · rintro ⟨h1, h2⟩
    exact ⟨fun ⟨x, hx, hs⟩ => h1 x hx hs, h2⟩
def spendN (s l : List K32) : List K32 × Int := if freeN s l = true then (addL s l, 0) else ([], 161)
def undoN : List K32 → List K32 → List K32 × Int
  | s, [] => (s, 0)
  | s, k :: l => if k ∈ s then undoN (s.erase k) l else ([], 3)
theorem spendN_len (s l : List K32) : (spendN s l).1.length ≤ s.length + l.length := by
  unfold spendN
  split
  · exact addL_le l s
  · simp
theorem undoN_len : ∀ (l s : List K32), (undoN s l).1.length ≤ s.length
  | [], s => Nat.le_refl _
  | k :: l, s => by
    unfold undoN
    split
    · exact Nat.le_trans (undoN_len l _) (List.length_erase_le)
    · simp
theorem spendN_or (s l : List K32) : (freeN s l = true ∧ spendN s l = (addL s l, 0)) ∨ (freeN s l = false ∧ spendN s l = ([], 161)) := by
  unfold spendN
  cases h : freeN s l with
  | true => exact .inl ⟨rfl, if_pos rfl⟩
  | false => exact .inr ⟨rfl, if_neg (by decide)⟩
/-- what is spent is undone -/
theorem undo_add : ∀ (l t s : List K32), IsSet t → IsSet s → l.Nodup → (∀ x, x ∈ t ↔ x ∈ s ∨ x ∈ l) → (∀ x ∈ l, x ∉ s) → undoN t l = (s, 0)
  | [], t, s, ht, hs, _, hm, _ => by
    unfold undoN
    rw [set_ext ht hs (fun x => by rw [hm x]; simp)]
  | k :: l, t, s, ht, hs, hn, hm, hd => by
    rw [List.nodup_cons] at hn
    unfold undoN
    rw [if_pos ((hm k).2 (.inr (by simp)))]
    refine undo_add l (t.erase k) s (ht.erase k) hs hn.2 (fun x => ?_) (fun x hx => hd x (by simp [hx]))
    rw [List.Nodup.mem_erase_iff ht.nodup, hm x, List.mem_cons]
    constructor
    · rintro ⟨h1, h2 | h2 | h2⟩
      · exact .inl h2
      · exact absurd h2 h1
      · exact .inr h2
    · rintro (h2 | h2)
      · exact ⟨fun e => hd k (by simp) (e ▸ h2), .inl h2⟩
      · exact ⟨fun e => hn.1 (e ▸ h2), .inr (.inr h2)⟩
theorem spend_undo {s m : List K32} (hs : IsSet s) (hf : freeN s m = true) : undoN (addL s m) m = (s, 0) :=
  undo_add m (addL s m) s (addL_set hs) hs (freeN_iff.1 hf).2 (fun _ => addL_mem) (freeN_iff.1 hf).1
end Go.Proofs.Ytklfbconbkbmpaa
