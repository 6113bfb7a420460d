/- A block that holds a transaction: its fields read and stored. Over any program. -/
import Derived.Test.YtgcopgnkfokphaaStructArg
import Derived.Test.YtgcopgnkfokphaaOnly
namespace Go.Proofs.Ytgcopgnkfokphaa
open Go.RowKit
section
variable {w : World} {g o : Nat} {a b : List Value}
theorem RowC.left (h : RowC w g o (a ++ b)) : RowC w g o a := fun j u hj => h j u (by rw [List.getElem?_append_left (List.getElem?_eq_some_iff.1 hj).1]; exact hj)
theorem RowC.right (h : RowC w g o (a ++ b)) : RowC w g (o + a.length) b := fun j u hj => by
  have := h (a.length + j) u (by rw [List.getElem?_append_right (by omega), Nat.add_sub_cancel_left]; exact hj)
  rwa [← Nat.add_assoc] at this
theorem RowC.head {v : Value} (h : RowC w g o (v :: b)) : w.cell? ⟨g, o, none⟩ = some v := h 0 v rfl
theorem RowC.tail {v : Value} (h : RowC w g o (v :: b)) : RowC w g (o + 1) b := fun j u hj => by
  have := h (j + 1) u (by simpa using hj)
  rwa [Nat.add_comm j 1, ← Nat.add_assoc] at this
theorem RowC.ki_key {q : IntKind} {x : K32 × IntV q} (h : RowC w g o (encKI q x)) : RowC w g o (encK x.1) := h.left
theorem RowC.ki_int {q : IntKind} {x : K32 × IntV q} (h : RowC w g o (encKI q x)) : w.cell? ⟨g, o + 32, none⟩ = some (.int q x.2.1) := by
  have := h.right
  rw [encK_len] at this
  exact this.head
theorem RowC.ik_int {q : IntKind} {x : IntV q × K32} (h : RowC w g o (encIK q x)) : w.cell? ⟨g, o, none⟩ = some (.int q x.1.1) := h.head
theorem RowC.ik_key {q : IntKind} {x : IntV q × K32} (h : RowC w g o (encIK q x)) : RowC w g (o + 1) (encK x.2) := h.tail
variable {T : TxV} {Ai Ao An At : Option Addr} {ci co cn ct : Nat}
theorem txCells_len : (txCells T Ai ci Ao co An cn At ct).length = 38 := by simp [txCells, encK_len]
theorem tx_anchor (h : RowC w g o (txCells T Ai ci Ao co An cn At ct)) : RowC w g (o + 3) (encK T.anchor) := by
  have h1 := (h.tail.tail.tail).left
  exact h1
theorem tx_behind (h : RowC w g o (txCells T Ai ci Ao co An cn At ct)) : RowC w g (o + 35) [.slice An T.nulls.length cn, .slice At T.notes.length ct, .int .i64 T.bal.1] := by
  have h1 := (h.tail.tail.tail).right
  rw [encK_len] at h1
  exact h1
theorem tx_exp (h : RowC w g o (txCells T Ai ci Ao co An cn At ct)) : w.cell? ⟨g, o, none⟩ = some (.int .u32 T.exp.1) := h.head
theorem tx_ins (h : RowC w g o (txCells T Ai ci Ao co An cn At ct)) : w.cell? ⟨g, o + 1, none⟩ = some (.slice Ai T.ins.length ci) := h.tail.head
theorem tx_outs (h : RowC w g o (txCells T Ai ci Ao co An cn At ct)) : w.cell? ⟨g, o + 2, none⟩ = some (.slice Ao T.outs.length co) := h.tail.tail.head
theorem tx_nulls (h : RowC w g o (txCells T Ai ci Ao co An cn At ct)) : w.cell? ⟨g, o + 35, none⟩ = some (.slice An T.nulls.length cn) := (tx_behind h).head
theorem tx_notes (h : RowC w g o (txCells T Ai ci Ao co An cn At ct)) : w.cell? ⟨g, o + 36, none⟩ = some (.slice At T.notes.length ct) := (tx_behind h).tail.head
theorem tx_bal (h : RowC w g o (txCells T Ai ci Ao co An cn At ct)) : w.cell? ⟨g, o + 37, none⟩ = some (.int .i64 T.bal.1) := (tx_behind h).tail.tail.head
/-- the whole block of a transaction -/
def TxBlk (w : World) (g : Nat) (t : TypeId) (T : TxV) (Ai : Option Addr) (ci : Nat) (Ao : Option Addr) (co : Nat) (An : Option Addr) (cn : Nat) (At : Option Addr) (ct : Nat) : Prop := Blk w g t (txCells T Ai ci Ao co An cn At ct).toArray
variable {t : TypeId}
theorem TxBlk.row (h : TxBlk w g t T Ai ci Ao co An cn At ct) : RowC w g 0 (txCells T Ai ci Ao co An cn At ct) := by
  have := RowC.of_blk h
  simpa using this
theorem set_app (k : List Value) (b : List Value) (i : Nat) (v : Value) : (k ++ b).set (k.length + i) v = k ++ b.set i v := by
  rw [List.set_append, if_neg (by omega), Nat.add_sub_cancel_left]
theorem tx_set_exp (z : IntV .u32) : (txCells T Ai ci Ao co An cn At ct).toArray.setIfInBounds 0 (.int .u32 z.1) = (txCells { T with exp := z } Ai ci Ao co An cn At ct).toArray := by simp [txCells]
theorem tx_set_ins (l : List (K32 × IntV .u32)) (A : Option Addr) (c : Nat) : (txCells T Ai ci Ao co An cn At ct).toArray.setIfInBounds 1 (.slice A l.length c) = (txCells { T with ins := l } A c Ao co An cn At ct).toArray := by simp [txCells]
theorem tx_set_outs (l : List (IntV .i64 × K32)) (A : Option Addr) (c : Nat) : (txCells T Ai ci Ao co An cn At ct).toArray.setIfInBounds 2 (.slice A l.length c) = (txCells { T with outs := l } Ai ci A c An cn At ct).toArray := by simp [txCells]
theorem tx_set_at (i : Nat) (v : Value) : (txCells T Ai ci Ao co An cn At ct).toArray.setIfInBounds (35 + i) v = (.int .u32 T.exp.1 :: .slice Ai T.ins.length ci :: .slice Ao T.outs.length co :: (encK T.anchor ++ [Value.slice An T.nulls.length cn, .slice At T.notes.length ct, .int .i64 T.bal.1].set i v)).toArray := by
  rw [List.setIfInBounds_toArray]
  unfold txCells
  rw [show 35 + i = (encK T.anchor).length + i + 1 + 1 + 1 by rw [encK_len]; omega, List.set_cons_succ, List.set_cons_succ, List.set_cons_succ, set_app]
theorem tx_set_nulls (l : List K32) (A : Option Addr) (c : Nat) : (txCells T Ai ci Ao co An cn At ct).toArray.setIfInBounds 35 (.slice A l.length c) = (txCells { T with nulls := l } Ai ci Ao co A c At ct).toArray := tx_set_at 0 _
theorem tx_set_notes (l : List K32) (A : Option Addr) (c : Nat) : (txCells T Ai ci Ao co An cn At ct).toArray.setIfInBounds 36 (.slice A l.length c) = (txCells { T with notes := l } Ai ci Ao co An cn A c).toArray := tx_set_at 1 _
theorem tx_set_bal (z : IntV .i64) : (txCells T Ai ci Ao co An cn At ct).toArray.setIfInBounds 37 (.int .i64 z.1) = (txCells { T with bal := z } Ai ci Ao co An cn At ct).toArray := tx_set_at 2 _
/-- the transaction of nothing -/
def txZero : TxV := ⟨⟨0, by decide⟩, [], [], ⟨List.replicate 32 0, by simp⟩, [], [], ⟨0, by decide⟩⟩
theorem txZero_cells : txCells txZero none 0 none 0 none 0 none 0 = .int .u32 0 :: .slice none 0 0 :: .slice none 0 0 :: (List.replicate 32 (.int .u8 0) ++ [.slice none 0 0, .slice none 0 0, .int .i64 0]) := by kernel_rfl
theorem txZero_in (B : Nat) : TxIn w B txZero none 0 none 0 none 0 none 0 := ⟨RowIn.nil (Nat.zero_le _), RowIn.nil (Nat.zero_le _), RowIn.nil (Nat.zero_le _), RowIn.nil (Nat.zero_le _)⟩
end
section
variable {P : Program} {t : TypeId} {T : TxV} {Ai Ao An At : Option Addr} {ci co cn ct : Nat}
/-- what a field of a transaction in hand is -/
theorem run_field_cell {fs : Array Field} (hs : P.underlying t = some (.struct fs)) (i off : Nat) (f : Field) (hf : fs[i]? = some f) (ho : f.offset = off) (ha : ∀ w, (isAgg f.type).run P w = .ok false w) (cs : Array Value) (v : Value) (hv : cs[off]? = some v) (w : World) :
    (Instr.field t (.agg cs) i).run P w = .ok v w := by
  subst ho
  simp [Instr.field, run_underlying hs, hf, asAgg, part, ha, hv]
theorem run_field_agg {fs : Array Field} (hs : P.underlying t = some (.struct fs)) (i off k : Nat) (f : Field) (hf : fs[i]? = some f) (ho : f.offset = off) (ha : ∀ w, (isAgg f.type).run P w = .ok true w) (hk : ∀ w, (sizeOf f.type).run P w = .ok k w) (cs : Array Value) (w : World) :
    (Instr.field t (.agg cs) i).run P w = .ok (.agg (cs.extract off (off + k))) w := by
  subst ho
  simp [Instr.field, run_underlying hs, hf, asAgg, part, ha, hk]
theorem tx_extract : (txCells T Ai ci Ao co An cn At ct).toArray.extract 3 35 = bytesA T.anchor.1 := by
  rw [← encK_arr]
  apply Array.toList_inj.1
  have hl := encK_len T.anchor
  simp [txCells, hl]
end
end Go.Proofs.Ytgcopgnkfokphaa
