/- A block, with where its transactions lie, as one thing. -/
import Derived.Test.YthpnmmilioonhaaDoorBlkP
import Derived.Test.YthpnmmilioonhaaDoorTxAllB
import Derived.Test.YthpnmmilioonhaaDoorTxAllA
namespace Go.Proofs.YthpnmmilioonhaaDoor
open Go.RowKit
theorem tyTxR : RowTy Tryd.prog 25 32 TxA.cells 38 := ⟨Tryd.underlying25, by kernel_rfl, TxA.len, TxA.one, Tryd.isAgg32, by omega⟩
/-- a list of transactions lies so -/
structure TxsIn (w : World) (B : Nat) (A : Option Addr) (c : Nat) (l : List TxA) : Prop where
  row : RowIn TxA.cells 38 w B A c l
  each : ∀ t ∈ l, t.In w B
section
variable {w w' : World} {B B' c : Nat} {A : Option Addr} {l : List TxA}
theorem TxsIn.below (h : TxsIn w B A c l) (hb : Below B w w') : TxsIn w' B A c l := ⟨h.row.below hb, fun t ht => (h.each t ht).below hb⟩
theorem TxsIn.more (h : TxsIn w B A c l) (hB : B ≤ B') : TxsIn w B' A c l := ⟨h.row.more hB, fun t ht => (h.each t ht).more hB⟩
theorem TxsIn.on (h : TxsIn w B A c l) (hb : Below B w w') (hB : B ≤ w.heap.size) : TxsIn w' w'.heap.size A c l := (h.below hb).more (Nat.le_trans hB hb.size)
theorem TxsIn.nil (hc : c ≤ maxLen) : TxsIn w B A c [] := ⟨RowIn.nil hc, fun _ h => by cases h⟩
theorem TxsIn.take (h : TxsIn w B A c l) (i : Nat) : TxsIn w B A c (l.take i) := ⟨h.row.take TxA.len i, fun t ht => h.each t (List.mem_of_mem_take ht)⟩
theorem TxsIn.drop (h : TxsIn w B A c l) (i : Nat) (hi : i ≤ l.length) : TxsIn w B (cutA 38 c i A) (c - i) (l.drop i) := ⟨h.row.drop TxA.len i hi, fun t ht => h.each t (List.mem_of_mem_drop ht)⟩
end
structure BkA where
  prev : K32
  root : K32
  nonce : IntV .u32
  txs : List TxA
  A : Option Addr
  c : Nat
def BkA.B (b : BkA) : BlockV := ⟨b.prev, b.root, b.nonce, b.txs.map TxA.T⟩
def BkA.cells (b : BkA) : List Value := encK b.prev ++ (encK b.root ++ [.int .u32 b.nonce.1, .slice b.A b.txs.length b.c])
def BkA.In (w : World) (B : Nat) (b : BkA) : Prop := TxsIn w B b.A b.c b.txs
theorem BkA.len (b : BkA) : b.cells.length = 66 := by
  unfold BkA.cells
  rw [List.length_append, List.length_append, encK_len, encK_len]
  rfl
theorem BkA.one (b : BkA) : ∀ v ∈ b.cells, v.oneCell' = true := by
  intro v hv
  unfold BkA.cells at hv
  simp only [List.mem_append, List.mem_cons, List.not_mem_nil, or_false] at hv
  rcases hv with h | h | rfl | rfl
  · exact encK_one _ v h
  · exact encK_one _ v h
  · rfl
  · rfl
theorem tyBk : CellTy Tryd.prog 27 BkA.cells 66 := ⟨by kernel_rfl, BkA.len, BkA.one, Tryd.isAgg27⟩
section
variable {w w' : World} {B B' g : Nat} {b : BkA}
theorem BkA.In.below (h : b.In w B) (hb : Below B w w') : b.In w' B := TxsIn.below h hb
theorem BkA.In.more (h : b.In w B) (hB : B ≤ B') : b.In w B' := TxsIn.more h hB
theorem BkA.In.on (h : b.In w B) (hb : Below B w w') (hB : B ≤ w.heap.size) : b.In w' w'.heap.size := TxsIn.on h hb hB
theorem BkA.c0 (h : RowC w g 0 b.cells) : RowC w g 0 (encK b.prev) := h.left
theorem BkA.c1 (h : RowC w g 0 b.cells) : RowC w g 32 (encK b.root) := by
  have := h.right
  rw [encK_len] at this
  exact this.left
theorem BkA.c2 (h : RowC w g 0 b.cells) : w.cell? ⟨g, 64, none⟩ = some (.int .u32 b.nonce.1) := by
  have := h.right
  rw [encK_len] at this
  have := this.right
  rw [encK_len] at this
  exact this.head
theorem BkA.c3 (h : RowC w g 0 b.cells) : w.cell? ⟨g, 65, none⟩ = some (.slice b.A b.txs.length b.c) := by
  have := h.right
  rw [encK_len] at this
  have := this.right
  rw [encK_len] at this
  exact this.tail.head
theorem BkA.set_nonce (b : BkA) (z : IntV .u32) : b.cells.toArray.setIfInBounds 64 (.int .u32 z.1) = ({ b with nonce := z } : BkA).cells.toArray := by
  have h1 := encK_len b.prev
  have h2 := encK_len b.root
  simp [BkA.cells, h1, h2]
theorem BkA.set_txs (b : BkA) (l : List TxA) (A : Option Addr) (c : Nat) : b.cells.toArray.setIfInBounds 65 (.slice A l.length c) = ({ b with txs := l, A := A, c := c } : BkA).cells.toArray := by
  have h1 := encK_len b.prev
  have h2 := encK_len b.root
  simp [BkA.cells, h1, h2]
theorem BkA.set_prev (b : BkA) (k : K32) : (b.cells.take 0 ++ encK k ++ b.cells.drop (0 + 32)) = ({ b with prev := k } : BkA).cells := by
  have h1 := encK_len b.prev
  simp [BkA.cells, h1]
theorem BkA.set_root (b : BkA) (k : K32) : (b.cells.take 32 ++ encK k ++ b.cells.drop (32 + 32)) = ({ b with root := k } : BkA).cells := by
  have h1 := encK_len b.prev
  have h2 := encK_len b.root
  unfold BkA.cells
  rw [List.take_append_of_le_length (by omega), List.take_of_length_le (by omega), List.drop_append, List.drop_of_length_le (by omega), List.nil_append, h1, List.drop_append, List.drop_of_length_le (by omega), h2]
  simp
end
/-- a block of nothing -/
def bZ : BkA := ⟨zeroKey, zeroKey, txZero.exp, [], none, 0⟩
end Go.Proofs.YthpnmmilioonhaaDoor
