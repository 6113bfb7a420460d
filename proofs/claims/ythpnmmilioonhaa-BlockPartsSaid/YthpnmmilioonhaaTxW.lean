/- A transaction, with where its lists lie, as one thing; a type whose values have k cells: load and store. -/
import Derived.Test.YthpnmmilioonhaaTxH
namespace Go.Proofs.Ythpnmmilioonhaa
open Go.RowKit
/-- values of type e have k cells, which 'enc' lists -/
structure CellTy (P : Program) (e : TypeId) {α : Type} (enc : α → List Value) (k : Nat) : Prop where
  size : (P.info? e).map (·.size) = some k
  len : ∀ x, (enc x).length = k
  one : ∀ x, ∀ v ∈ enc x, v.oneCell' = true
  agg : ∀ w, (isAgg e).run P w = .ok true w
section
variable {α : Type} {enc : α → List Value} {k : Nat} {P : Program} {e : TypeId} (T : CellTy P e enc k)
include T
theorem CellTy.sizeOf (w : World) : (Go.sizeOf e).run P w = .ok k w := by
  have h := T.size
  cases hq : P.info? e with
  | none => simp [hq] at h
  | some i => have hz : i.size = k := by simpa [hq] using h
              simp [Go.sizeOf, typeInfo, hq, hz]
theorem CellTy.load (w : World) (g o : Nat) (x : α) (h : RowC w g o (enc x)) : (loadVar e ⟨g, o, none⟩).run P w = .ok (.agg (enc x).toArray) w := by
  have hl := run_loadCellsFrom_list P w ⟨g, o, none⟩ (enc x) k (T.len x) (fun j v hv => by
    have hadd : (⟨g, o, none⟩ : Addr).add j = ⟨g, o + j, none⟩ := by unfold Addr.add; split <;> simp_all
    rw [hadd]; exact h j v hv)
  simp [loadVar, T.agg, T.sizeOf, loadCells, hl]
theorem CellTy.wpList_load {ops : Array Oper} {rest : List Oper} {o : Oper} {a : Act} {w : World} {Q : Exit → Act → World → Prop} (hw : Region.wanted o (yielded ops a.tmps) = true) (x : Operand) (ho : o.op = .load e x)
    (g off : Nat) (hx : a.eval x = .pointer (some ⟨g, off, none⟩)) (y : α) (hg : RowC w g off (enc y))
    (h : wpList P ops Q rest (a.put o.dst (.agg (enc y).toArray)) w) : wpList P ops Q (o :: rest) a w :=
  wpList_step fun _ hK => by
    rw [if_pos hw]
    unfold Oper.wp execOp
    simp only [ho, hx, Instr.loadAt, Instr.sureAddr, Sem.run_bind, Sem.run_pure, Result.andThen_ok, T.load w g off y hg]
    exact hK _ _ h
theorem CellTy.wpQuiet_load {ops : Array Oper} {C : World → Prop} {Q : Act → Prop} {a : Act} {rest : List Oper} {o : Oper} (hw : Region.wanted o (yielded ops a.tmps) = true) (x : Operand) (ho : o.op = .load e x)
    (g off : Nat) (hx : a.eval x = .pointer (some ⟨g, off, none⟩)) (y : α) (hg : ∀ w, C w → RowC w g off (enc y))
    (h : wpQuiet P ops C Q rest (a.put o.dst (.agg (enc y).toArray))) : wpQuiet P ops C Q (o :: rest) a :=
  wpQuiet_step fun K hK => by
    rw [if_pos hw]
    refine ⟨.agg (enc y).toArray, fun w hC => ?_, hK _ h⟩
    unfold Oper.quietAt execOp
    simp only [ho, hx, Instr.loadAt, Instr.sureAddr, Sem.run_bind, Sem.run_pure, Result.andThen_ok, T.load w g off y (hg w hC)]
    exact ⟨rfl, rfl⟩
theorem CellTy.arr (x : α) : (enc x).toArray.size = k := by rw [List.size_toArray, T.len]
/-- a store into a whole block -/
theorem CellTy.wpList_store {ops : Array Oper} {rest : List Oper} {o : Oper} {a : Act} {w : World} {Q : Exit → Act → World → Prop} (hgd : o.guard = none) (x y : Operand) (ho : o.op = .store e x y)
    (hd : o.dst = none) (g : Nat) (v : α) (hx : a.eval x = .pointer (some ⟨g, 0, none⟩)) (hy : a.eval y = .agg (enc v).toArray) (t : TypeId) (old : Array Value) (hg : Blk w g t old) (hold : old.size = k)
    (h : ∀ w', Only [g] w w' → Blk w' g t (enc v).toArray → wpList P ops Q rest a w') : wpList P ops Q (o :: rest) a w :=
  wpList_store_arr hgd e x y ho hd g _ hx hy t old hg (by rw [T.arr, T.size]) (by rw [T.arr, hold]) (by rw [List.all_toArray, List.all_eq_true]; exact T.one v) h
end
/-- a transaction, and where its lists lie -/
structure TxA where
  T : TxV
  Ai : Option Addr
  ci : Nat
  Ao : Option Addr
  co : Nat
  An : Option Addr
  cn : Nat
  At : Option Addr
  ct : Nat
def TxA.cells (a : TxA) : List Value := txCells a.T a.Ai a.ci a.Ao a.co a.An a.cn a.At a.ct
def TxA.In (w : World) (B : Nat) (a : TxA) : Prop := TxIn w B a.T a.Ai a.ci a.Ao a.co a.An a.cn a.At a.ct
theorem TxA.len (a : TxA) : a.cells.length = 38 := txCells_len
theorem TxA.one (a : TxA) : ∀ v ∈ a.cells, v.oneCell' = true := by
  intro v hv
  simp only [TxA.cells, txCells, List.mem_cons, List.mem_append, List.not_mem_nil, or_false] at hv
  rcases hv with rfl | rfl | rfl | h | rfl | rfl | rfl
  · rfl
  · rfl
  · rfl
  · exact encK_one _ v h
  · rfl
  · rfl
  · rfl
theorem tyTx : CellTy Try.prog 44 TxA.cells 38 := ⟨by kernel_rfl, TxA.len, TxA.one, Try.isAgg44⟩
theorem TxA.In.below {w w' : World} {B : Nat} {a : TxA} (h : a.In w B) (hb : Below B w w') : a.In w' B := TxIn.below h hb
theorem TxA.In.more {w : World} {B B' : Nat} {a : TxA} (h : a.In w B) (hB : B ≤ B') : a.In w B' := TxIn.more h hB
/-- in every world behind it lies as it did -/
theorem TxA.In.on {w w' : World} {B : Nat} {a : TxA} (h : a.In w B) (hb : Below B w w') (hB : B ≤ w.heap.size) : a.In w' w'.heap.size := (h.below hb).more (Nat.le_trans hB hb.size)
section
variable {w : World} {g : Nat} {a : TxA}
theorem TxA.c0 (h : RowC w g 0 a.cells) : w.cell? ⟨g, 0, none⟩ = some (.int .u32 a.T.exp.1) := tx_exp h
theorem TxA.c1 (h : RowC w g 0 a.cells) : w.cell? ⟨g, 1, none⟩ = some (.slice a.Ai a.T.ins.length a.ci) := by have := tx_ins h; rwa [Nat.zero_add] at this
theorem TxA.c2 (h : RowC w g 0 a.cells) : w.cell? ⟨g, 2, none⟩ = some (.slice a.Ao a.T.outs.length a.co) := by have := tx_outs h; rwa [Nat.zero_add] at this
theorem TxA.c3 (h : RowC w g 0 a.cells) : RowC w g 3 (encK a.T.anchor) := by have := tx_anchor h; rwa [Nat.zero_add] at this
theorem TxA.c4 (h : RowC w g 0 a.cells) : w.cell? ⟨g, 35, none⟩ = some (.slice a.An a.T.nulls.length a.cn) := by have := tx_nulls h; rwa [Nat.zero_add] at this
theorem TxA.c5 (h : RowC w g 0 a.cells) : w.cell? ⟨g, 36, none⟩ = some (.slice a.At a.T.notes.length a.ct) := by have := tx_notes h; rwa [Nat.zero_add] at this
theorem TxA.c6 (h : RowC w g 0 a.cells) : w.cell? ⟨g, 37, none⟩ = some (.int .i64 a.T.bal.1) := by have := tx_bal h; rwa [Nat.zero_add] at this
end
theorem encA_any (a : TxA) (w : World) (h : a.In w w.heap.size) :
    Calls Try.prog 45 #[.agg a.cells.toArray] w fun e w' => e = .returned (encV (encF a.T)) ∧ Below w.heap.size w w' := enc_any w h
end Go.Proofs.Ythpnmmilioonhaa
