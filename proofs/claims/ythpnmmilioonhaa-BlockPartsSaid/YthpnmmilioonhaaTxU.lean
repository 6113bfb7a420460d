/- tx's reader: what it holds while a transaction is read. -/
import Derived.Test.YthpnmmilioonhaaTxL
namespace Go.Proofs.Ythpnmmilioonhaa
open Go.RowKit
section
variable {P : Program} {e : TypeId} {α : Type} {enc : α → List Value} {k : Nat} (T : CellTy P e enc k)
include T
/-- a store of a value of k cells into the midst of a block -/
theorem CellTy.wpList_storeAt {ops : Array Oper} {rest : List Oper} {o : Oper} {a : Act} {w : World} {Q : Exit → Act → World → Prop} (hgd : o.guard = none) (x y : Operand) (ho : o.op = .store e x y)
    (hd : o.dst = none) (g off : Nat) (v : α) (hx : a.eval x = .pointer (some ⟨g, off, none⟩)) (hy : a.eval y = .agg (enc v).toArray) (te : TypeId) (cs : List Value) (hg : Blk w g te cs.toArray) (hfit : off + k ≤ cs.length)
    (h : ∀ w', Only [g] w w' → Blk w' g te (cs.take off ++ enc v ++ cs.drop (off + k)).toArray → wpList P ops Q rest a w') : wpList P ops Q (o :: rest) a w :=
  wpList_plain hgd fun _ hK => by
    have hst := run_storeCells_at P g off te (enc v) 0 _ w hg (by rw [T.len, Nat.add_zero, List.size_toArray]; exact hfit) (T.one v)
    rw [Nat.add_zero, T.len] at hst
    have hs : cs.toArray.toList = cs := by simp
    rw [hs] at hst
    have hrun : (storeVar e ⟨g, off, none⟩ (.agg (enc v).toArray)).run P w = .ok () (w.setRow g (cs.take off ++ enc v ++ cs.drop (off + k)).toArray) := by
      simp [storeVar, T.sizeOf, Value.cells, T.len, hst]
    unfold Oper.wp execOp
    simp only [ho, hx, hy, Instr.storeAt, Instr.sureAddr, Sem.run_bind, Sem.run_pure, Result.andThen_ok, hrun]
    rw [Oper.upon_skip, hd]
    exact hK _ _ (h _ (only_setRow hg _).1 (only_setRow hg _).2)
end
theorem tyKc : CellTy Try.prog 24 encK 32 := ⟨tyKy.size, tyKy.len, tyKy.one, tyKy.agg⟩
/-- a list that lies whole in a block of its own, or nowhere -/
def LB {α : Type} (enc : α → List Value) (e : TypeId) (w : World) (A : Option Addr) (c : Nat) (l : List α) : Prop :=
  (A = none ∧ c = 0 ∧ l = []) ∨ ∃ h, A = some ⟨h, 0, none⟩ ∧ c = l.length ∧ Blk w h e (cellsOf enc l).toArray
section
variable {α : Type} {enc : α → List Value} {e : TypeId} {w w' : World} {A : Option Addr} {c : Nat} {l : List α}
theorem LB.past (h : LB enc e w A c l) {g : Nat} (hp : Past g w w') {t : TypeId} {cs : Array Value} (hg : Blk w g t cs) (hne : e ≠ t) : LB enc e w' A c l := by
  rcases h with h | ⟨b, h1, h2, h3⟩
  · exact .inl h
  · exact .inr ⟨b, h1, h2, hp.blk h3 (h3.ne_ hg hne)⟩
theorem LB.only (h : LB enc e w A c l) {g : Nat} (ho : Only [g] w w') {t : TypeId} {cs : Array Value} (hg : Blk w g t cs) (hne : e ≠ t) : LB enc e w' A c l := by
  rcases h with h | ⟨b, h1, h2, h3⟩
  · exact .inl h
  · exact .inr ⟨b, h1, h2, ho.blk h3 (by have := h3.ne_ hg hne; simpa using this)⟩
theorem LB.row {k : Nat} (h : LB enc e w A c l) (hm : l.length ≤ maxLen) : RowIn enc k w w.heap.size A c l := by
  rcases h with ⟨rfl, rfl, rfl⟩ | ⟨b, rfl, rfl, h3⟩
  · exact RowIn.nil (Nat.zero_le _)
  · exact (rowIn_blk h3 (Nat.le_refl _) hm).more h3.lt
theorem LB.mk {v : Value} (h : VL enc e l v w) : ∃ A, v = .slice A l.length l.length ∧ LB enc e w A l.length l := by
  obtain ⟨b, h1, h2⟩ := h
  exact ⟨_, h1, .inr ⟨b, rfl, rfl, h2⟩⟩
end
def aZ : TxA := ⟨txZero, none, 0, none, 0, none, 0, none, 0⟩
/-- the lists of a transaction, each in a block of its own -/
structure TL (w : World) (a : TxA) : Prop where
  ins : LB (encKI .u32) 49 w a.Ai a.ci a.T.ins
  outs : LB (encIK .i64) 92 w a.Ao a.co a.T.outs
  nulls : LB encK 24 w a.An a.cn a.T.nulls
  notes : LB encK 24 w a.At a.ct a.T.notes
/-- what the reader holds: the bytes left at g, the answer's place g2, the transaction at g3 -/
structure RdSt (w0 : World) (g g2 g3 : Nat) (a : TxA) (w : World) (r : List UInt8) : Prop where
  rb : Rb w g r
  len : r.length ≤ 1000000
  past : Past g w0 w
  k2 : ∃ cs : Array Value, cs.size = 38 ∧ Blk w g2 44 cs
  k3 : Blk w g3 44 a.cells.toArray
  ne : g2 ≠ g3
  new2 : w0.heap.size ≤ g2
  new3 : w0.heap.size ≤ g3
  tl : TL w a
section
variable {w0 w w' : World} {g g2 g3 : Nat} {a a' : TxA} {r r' : List UInt8}
theorem TL.past (h : TL w a) (hp : Past g w w') (hr : Rb w g r) : TL w' a :=
  ⟨h.ins.past hp hr (by decide), h.outs.past hp hr (by decide), h.nulls.past hp hr (by decide), h.notes.past hp hr (by decide)⟩
theorem TL.only (h : TL w a) {cs : Array Value} (ho : Only [g] w w') (hg : Blk w g 44 cs) : TL w' a :=
  ⟨h.ins.only ho hg (by decide), h.outs.only ho hg (by decide), h.nulls.only ho hg (by decide), h.notes.only ho hg (by decide)⟩
theorem RdSt.call (h : RdSt w0 g g2 g3 a w r) (hp : Past g w w') (hr : Rb w' g r') (hl : r'.length ≤ 1000000) : RdSt w0 g g2 g3 a w' r' where
  rb := hr
  len := hl
  past := h.past.trans hp
  k2 := by obtain ⟨cs, h1, h2⟩ := h.k2; exact ⟨cs, h1, hp.blk h2 (h2.ne_ h.rb (by decide))⟩
  k3 := hp.blk h.k3 (h.k3.ne_ h.rb (by decide))
  ne := h.ne
  new2 := h.new2
  new3 := h.new3
  tl := h.tl.past hp h.rb
theorem RdSt.set (h : RdSt w0 g g2 g3 a w r) (ho : Only [g3] w w') (hk : Blk w' g3 44 a'.cells.toArray) (ht : TL w' a') : RdSt w0 g g2 g3 a' w' r where
  rb := ho.blk h.rb (by have := h.rb.ne_ h.k3 (by decide); simpa using this)
  len := h.len
  past := h.past.new ho h.new3
  k2 := by obtain ⟨cs, h1, h2⟩ := h.k2; exact ⟨cs, h1, ho.blk h2 (by have := h.ne; simpa using this)⟩
  k3 := hk
  ne := h.ne
  new2 := h.new2
  new3 := h.new3
  tl := ht
end
theorem TL.inn {w : World} {a : TxA} (h : TL w a) (hok : OkTx a.T) : a.In w w.heap.size :=
  ⟨h.ins.row (Nat.le_trans hok.1 (by decide)), h.outs.row (Nat.le_trans hok.2.1 (by decide)), h.nulls.row (Nat.le_trans hok.2.2.1 (by decide)), h.notes.row (Nat.le_trans hok.2.2.2.1 (by decide))⟩
theorem TxA.set_anchor (a : TxA) (k : K32) : (a.cells.take 3 ++ encK k ++ a.cells.drop (3 + 32)) = (({ a with T := { a.T with anchor := k } } : TxA)).cells := by
  have hl := encK_len a.T.anchor
  simp [TxA.cells, txCells, hl]
theorem TxA.set_exp (a : TxA) (z : IntV .u32) : a.cells.toArray.setIfInBounds 0 (.int .u32 z.1) = (({ a with T := { a.T with exp := z } } : TxA)).cells.toArray := tx_set_exp z
theorem TxA.set_ins' (a : TxA) (l : List (K32 × IntV .u32)) (A : Option Addr) (c : Nat) : a.cells.toArray.setIfInBounds 1 (.slice A l.length c) = (({ a with T := { a.T with ins := l }, Ai := A, ci := c } : TxA)).cells.toArray := tx_set_ins l A c
theorem TxA.set_outs (a : TxA) (l : List (IntV .i64 × K32)) (A : Option Addr) (c : Nat) : a.cells.toArray.setIfInBounds 2 (.slice A l.length c) = (({ a with T := { a.T with outs := l }, Ao := A, co := c } : TxA)).cells.toArray := tx_set_outs l A c
theorem TxA.set_nulls (a : TxA) (l : List K32) (A : Option Addr) (c : Nat) : a.cells.toArray.setIfInBounds 35 (.slice A l.length c) = (({ a with T := { a.T with nulls := l }, An := A, cn := c } : TxA)).cells.toArray := tx_set_nulls l A c
theorem TxA.set_notes (a : TxA) (l : List K32) (A : Option Addr) (c : Nat) : a.cells.toArray.setIfInBounds 36 (.slice A l.length c) = (({ a with T := { a.T with notes := l }, At := A, ct := c } : TxA)).cells.toArray := tx_set_notes l A c
theorem TxA.set_bal (a : TxA) (z : IntV .i64) : a.cells.toArray.setIfInBounds 37 (.int .i64 z.1) = (({ a with T := { a.T with bal := z } } : TxA)).cells.toArray := tx_set_bal z
theorem kcast {w : World} {g : Nat} {t : TypeId} {cs cs' : Array Value} (h : cs = cs') (hb : Blk w g t cs) : Blk w g t cs' := h ▸ hb
end Go.Proofs.Ythpnmmilioonhaa
