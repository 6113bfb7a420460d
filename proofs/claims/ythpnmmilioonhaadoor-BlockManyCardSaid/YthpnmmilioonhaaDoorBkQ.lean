/- Plain: what a block's Encode, Id, Notes, Sigs, Size tell. -/
import Derived.Test.YthpnmmilioonhaaDoorBlkP
import Derived.Test.YthpnmmilioonhaaDoorTxAllA
namespace Go.Proofs.YthpnmmilioonhaaDoor
/-- each one's bytes, or the first error -/
def encTxs : List TxV → Except Int (List UInt8)
  | [] => .ok []
  | T :: l => if (encF T).2 = 0 then (match encTxs l with
    | .ok s => .ok ((encF T).1 ++ s)
    | .error e => .error e) else .error (encF T).2
theorem encF_zero {T : TxV} (h : (encF T).2 = 0) : OkTx T ∧ (encF T).1 = txB T := by
  rcases encF_cases T with ⟨h1, h2⟩ | h2 | h2
  · exact ⟨h1, by rw [h2]⟩
  · rw [h2] at h; simp at h
  · rw [h2] at h; simp at h
theorem encF_errs {T : TxV} (h : (encF T).2 ≠ 0) : (encF T).1 = [] ∧ ((encF T).2 = 51 ∨ (encF T).2 = 1) := by
  rcases encF_cases T with ⟨_, h2⟩ | h2 | h2
  · rw [h2] at h; simp at h
  · rw [h2]; exact ⟨rfl, .inl rfl⟩
  · rw [h2]; exact ⟨rfl, .inr rfl⟩
theorem encTxs_ok : ∀ l : List TxV, (∀ T ∈ l, OkTx T) → encTxs l = .ok (l.flatMap txB)
  | [], _ => rfl
  | T :: l, h => by
    have h1 := encF_ok T (h T (by simp))
    unfold encTxs
    rw [h1, encTxs_ok l (fun U hU => h U (by simp [hU]))]
    simp
theorem encTxs_inv : ∀ (l : List TxV) (s : List UInt8), encTxs l = .ok s → ∀ T ∈ l, OkTx T
  | [], _, _, T, hT => by cases hT
  | U :: l, s, h, T, hT => by
    unfold encTxs at h
    split at h
    · rename_i h0
      split at h
      · rename_i s' e
        rcases List.mem_cons.1 hT with rfl | hT'
        · exact (encF_zero h0).1
        · exact encTxs_inv l s' e T hT'
      · cases h
    · cases h
theorem encTxs_err : ∀ (l : List TxV) (e : Int), encTxs l = .error e → e = 51 ∨ e = 1
  | [], _, h => by cases h
  | U :: l, e, h => by
    unfold encTxs at h
    split at h
    · split at h
      · cases h
      · rename_i e' q
        injection h with h
        exact h ▸ encTxs_err l e' q
    · rename_i h0
      injection h with h
      rw [← h]
      exact (encF_errs h0).2
theorem encTxs_snoc (l : List TxV) (T : TxV) (s : List UInt8) (h : encTxs l = .ok s) : encTxs (l ++ [T]) = if (encF T).2 = 0 then .ok (s ++ (encF T).1) else .error (encF T).2 := by
  induction l generalizing s with
  | nil =>
    injection h with h
    subst h
    show encTxs [T] = _
    unfold encTxs
    split
    · simp [encTxs]
    · rfl
  | cons U l ih =>
    rw [List.cons_append]
    unfold encTxs at h ⊢
    split at h
    · rename_i h0
      rw [if_pos h0]
      split at h
      · rename_i s' e
        injection h with h
        rw [ih s' e]
        subst h
        by_cases hT : (encF T).2 = 0
        · rw [if_pos hT, if_pos hT]
          simp
        · rw [if_neg hT, if_neg hT]
      · cases h
    · cases h
theorem encTxs_first (l m : List TxV) (T : TxV) (s : List UInt8) (h : encTxs l = .ok s) (h0 : (encF T).2 ≠ 0) : encTxs (l ++ T :: m) = .error (encF T).2 := by
  induction l generalizing s with
  | nil =>
    show encTxs (T :: m) = _
    unfold encTxs
    rw [if_neg h0]
  | cons U l ih =>
    rw [List.cons_append]
    unfold encTxs at h ⊢
    split at h
    · rename_i hU
      rw [if_pos hU]
      split at h
      · rename_i s' e
        rw [ih s' e]
      · cases h
    · cases h
/-- the bytes ahead of the transactions -/
def headB (prev root : K32) (nonce : IntV .u32) (n : Nat) : List UInt8 := prev.1 ++ (root.1 ++ (putL nonce.1.toNat 4 ++ cmpL n))
theorem headB_len (p r : K32) (z : IntV .u32) (n : Nat) (h : n ≤ 30) : (headB p r z n).length = 69 := by
  unfold headB
  rw [List.length_append, List.length_append, List.length_append, p.2, r.2, putL_len, cmpL_small _ (by omega)]
/-- what a block's Encode answers -/
def encBF (B : BlockV) : List UInt8 × Int :=
  if B.txs.length = 0 then ([], 110) else if 30 < B.txs.length then ([], 51) else match encTxs B.txs with
    | .ok s => (headB B.prev B.root B.nonce B.txs.length ++ s, 0)
    | .error e => ([], e)
theorem encBF_ok (B : BlockV) (h : OkBlk B) : encBF B = (blkB B, 0) := by
  obtain ⟨h1, h2, h3⟩ := h
  unfold encBF
  rw [if_neg (by omega), if_neg (by omega), encTxs_ok _ h3]
  unfold blkB txsB headB
  simp only [List.append_assoc]
theorem encBF_cases (B : BlockV) : (OkBlk B ∧ encBF B = (blkB B, 0)) ∨ ∃ e, encBF B = ([], e) ∧ (e = 110 ∨ e = 51 ∨ e = 1) := by
  by_cases h0 : B.txs.length = 0
  · exact .inr ⟨110, by unfold encBF; rw [if_pos h0], .inl rfl⟩
  by_cases h1 : 30 < B.txs.length
  · exact .inr ⟨51, by unfold encBF; rw [if_neg h0, if_pos h1], .inr (.inl rfl)⟩
  cases h : encTxs B.txs with
  | ok s =>
    have hok : OkBlk B := ⟨by omega, by omega, encTxs_inv _ _ h⟩
    exact .inl ⟨hok, encBF_ok B hok⟩
  | error e =>
    refine .inr ⟨e, by unfold encBF; rw [if_neg h0, if_neg h1, h], ?_⟩
    rcases encTxs_err _ _ h with q | q
    · exact .inr (.inl q)
    · exact .inr (.inr q)
theorem sum_le (l : List Nat) (k : Nat) (h : ∀ x ∈ l, x ≤ k) : l.sum ≤ k * l.length := by
  induction l with
  | nil => simp
  | cons a l ih =>
    rw [List.sum_cons, List.length_cons, Nat.mul_add, Nat.mul_one]
    have := h a (by simp)
    have := ih (fun x hx => h x (by simp [hx]))
    omega
/-- notes and signatures -/
def notesF (l : List TxV) : List K32 := l.flatMap (·.notes)
def sigF (T : TxV) : Nat := if coinF T then 0 else T.ins.length
def sigsF (l : List TxV) : Nat := (l.map sigF).sum
def sizeF (T : TxV) : Nat := (encF T).1.length
theorem sigsF_le (l : List TxV) (h : ∀ T ∈ l, T.ins.length ≤ 60) : sigsF l ≤ 60 * l.length := by
  unfold sigsF
  have := sum_le (l.map sigF) 60 (fun x hx => by
    obtain ⟨T, hT, rfl⟩ := List.mem_map.1 hx
    unfold sigF
    have := h T hT
    split <;> omega)
  rwa [List.length_map] at this
theorem sigsF_snoc (l : List TxV) (T : TxV) : sigsF (l ++ [T]) = sigsF l + sigF T := by
  unfold sigsF
  rw [List.map_append, List.sum_append]
  simp
theorem notesF_snoc (l : List TxV) (T : TxV) : notesF (l ++ [T]) = notesF l ++ T.notes := by
  unfold notesF
  rw [List.flatMap_append]
  simp
theorem notesF_len (l : List TxV) (h : ∀ T ∈ l, T.notes.length ≤ 60) : (notesF l).length ≤ 60 * l.length := by
  unfold notesF
  rw [List.length_flatMap]
  have := sum_le (l.map fun T => T.notes.length) 60 (fun x hx => by
    obtain ⟨T, hT, rfl⟩ := List.mem_map.1 hx
    exact h T hT)
  rwa [List.length_map] at this
end Go.Proofs.YthpnmmilioonhaaDoor
