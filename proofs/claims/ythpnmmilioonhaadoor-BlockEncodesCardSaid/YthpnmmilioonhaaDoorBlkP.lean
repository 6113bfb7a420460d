/- Plain: a block's bytes, read and written. -/
import Derived.Test.YthpnmmilioonhaaDoorTxAllA
namespace Go.Proofs.YthpnmmilioonhaaDoor
structure BlockV where
  prev : K32
  root : K32
  nonce : IntV .u32
  txs : List TxV
def OkBlk (B : BlockV) : Prop := 0 < B.txs.length ∧ B.txs.length ≤ 30 ∧ ∀ T ∈ B.txs, OkTx T
/-- a number of transactions: one to thirty -/
def numB : Rd Nat := fun s => match readF s with
  | (n, r, e) => if e = 0 then (if n = 0 then .error 110 else if 30 < n then .error 51 else .ok (n, r)) else .error e
theorem good_numB : Good cmpL numB (fun n => 0 < n ∧ n ≤ 30) where
  fwd := fun n rest v => by
    unfold numB
    rw [readF_cmp n rest (by omega)]
    simp only [if_true]
    rw [if_neg (by omega), if_neg (by omega)]
  bwd := fun s a r e => by
    unfold numB at e
    rcases readF_cases s with ⟨n, r', h1, h2, _⟩ | h1 | h1
    · rw [h1] at e
      simp only [if_true] at e
      split at e
      · cases e
      · split at e
        · cases e
        · injection e with e
          injection e with e2 e3
          subst e2 e3
          exact ⟨⟨by omega, by omega⟩, h2.symm⟩
    · rw [h1] at e
      simp at e
    · rw [h1] at e
      simp at e
  cut := fun n i _ hi => by
    unfold numB
    rw [readF_cut n i hi]
    rfl
def txsB (l : List TxV) : List UInt8 := cmpL l.length ++ l.flatMap txB
def txsR : Rd (List TxV) := mapR (·.2) (thenR numB (listR txR))
theorem good_txs : Good txsB txsR (fun l => (0 < l.length ∧ l.length ≤ 30) ∧ ∀ T ∈ l, OkTx T) :=
  (good_numB.then_ (fun n _ => good_tx.list n)).map (·.2) (fun l => (l.length, l)) (fun _ _ => rfl) (fun a v => by obtain ⟨n, l⟩ := a; exact Prod.ext v.2.1 rfl) (fun _ v => ⟨v.1, rfl, v.2⟩) (fun a v => ⟨by rw [v.2.1]; exact v.1, v.2.2⟩)
abbrev BlkP := K32 × K32 × IntV .u32 × List TxV
def toBlk (p : BlkP) : BlockV := ⟨p.1, p.2.1, p.2.2.1, p.2.2.2⟩
def ofBlk (B : BlockV) : BlkP := (B.prev, B.root, B.nonce, B.txs)
def blkB (B : BlockV) : List UInt8 := B.prev.1 ++ (B.root.1 ++ (putL B.nonce.1.toNat 4 ++ txsB B.txs))
def blkR : Rd BlockV := mapR toBlk (thenR keyR fun _ => thenR keyR fun _ => thenR u32R fun _ => txsR)
theorem good_blk : Good blkB blkR OkBlk := by
  have h := good_key.then_ fun _ _ => good_key.then_ fun _ _ => good_u32.then_ fun _ _ => good_txs
  exact h.map (V' := OkBlk) toBlk ofBlk (fun _ _ => rfl) (fun _ _ => rfl)
    (fun B v => ⟨trivial, trivial, trivial, ⟨v.1, v.2.1⟩, v.2.2⟩) (fun p v => ⟨v.2.2.2.1.1, v.2.2.2.1.2, v.2.2.2.2⟩)
def decBlk (s : List UInt8) : Except Int BlockV := match blkR s with
  | .error e => .error e
  | .ok (B, r) => if r = [] then .ok B else .error 50
theorem decBlk_put (B : BlockV) (h : OkBlk B) : decBlk (blkB B) = .ok B := by
  unfold decBlk
  have := good_blk.fwd B [] h
  rw [List.append_nil] at this
  rw [this]
  rfl
theorem decBlk_more (B : BlockV) (h : OkBlk B) (b : UInt8) : decBlk (blkB B ++ [b]) = .error 50 := by
  unfold decBlk
  rw [good_blk.fwd B [b] h]
  rfl
theorem decBlk_cut (B : BlockV) (h : OkBlk B) (i : Nat) (hi : i < (blkB B).length) : decBlk ((blkB B).take i) = .error 30 := by unfold decBlk; rw [good_blk.cut B i h hi]
theorem decBlk_ok (s : List UInt8) (B : BlockV) (h : decBlk s = .ok B) : OkBlk B ∧ blkB B = s := by
  unfold decBlk at h
  split at h
  · cases h
  · rename_i B' r e
    split at h
    · rename_i hr
      injection h with h
      subst h hr
      obtain ⟨h1, h2⟩ := good_blk.bwd _ _ _ e
      exact ⟨h1, by rw [h2, List.append_nil]⟩
    · cases h
theorem blkB_len (B : BlockV) (h : OkBlk B) : (blkB B).length = 69 + (B.txs.map fun T => (txB T).length).sum := by
  unfold blkB txsB
  simp only [List.length_append, B.prev.2, B.root.2, putL_len, cmpL_small _ (Nat.le_trans h.2.1 (by omega)), List.length_flatMap]
  omega
end Go.Proofs.YthpnmmilioonhaaDoor
