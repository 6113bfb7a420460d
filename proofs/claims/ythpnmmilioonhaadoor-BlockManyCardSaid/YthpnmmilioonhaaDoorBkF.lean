/- Laws of a walk inside a fence: loads and stores of values of k cells. Over any program. -/
import Derived.Test.YthpnmmilioonhaaDoorTxAllB
import Derived.RangeFuncNested
import Derived.RangeFuncBound
import Derived.RangeFuncCalls
import Derived.RangeFuncLeaves
import Derived.Shelf.Abstract
import Derived.Shelf.RegionOpen
import Derived.WalkKit
import Derived.OwnWalkIn
import Derived.TacticsInMore
import Derived.LoopNIn
import Derived.LoopIn
namespace Go.Proofs.YthpnmmilioonhaaDoor
open Go.RowKit
section
variable {F : Fence} {n : Nat} {P : Program} {ops : Array Oper} {rest : List Oper} {o : Oper} {a : Act} {w : World} {Q : Exit → Act → World → Prop}
theorem wpListIn_run (hg : o.guard = none) (hd : ∀ c, o.op ≠ .defer c) (ha : o.about P w a.eval = none) (v : Value) (w' : World) (hrun : (execOp a.eval o).run P w = .ok (.value v) w')
    (h : wpListIn F n P ops Q rest (a.put o.dst v) w') : wpListIn F n P ops Q (o :: rest) a w :=
  wpListIn_plain hg fun K hK => by
    unfold Oper.wpIn
    refine ⟨fun f hf => (by rw [ha] at hf; cases hf), ?_⟩
    rw [Oper.semAt_plain F _ _ hd, hrun, Oper.uponIn_value]
    exact hK _ _ h
theorem wpListIn_runS (hg : o.guard = none) (hd : ∀ c, o.op ≠ .defer c) (ha : o.about P w a.eval = none) (hdst : o.dst = none) (w' : World) (hrun : (execOp a.eval o).run P w = .ok .skip w')
    (h : wpListIn F n P ops Q rest a w') : wpListIn F n P ops Q (o :: rest) a w :=
  wpListIn_plain hg fun K hK => by
    unfold Oper.wpIn
    refine ⟨fun f hf => (by rw [ha] at hf; cases hf), ?_⟩
    rw [Oper.semAt_plain F _ _ hd, hrun, Oper.uponIn_skip, hdst]
    exact hK _ _ h
theorem at_loadIn {dst : Option Tmp} {ty ty0 : TypeId} {pos : String} {after : Array Edge} (i : Nat)
    (h : wpListIn F n P ops Q ({ dst := dst, op := .load ty (.tmp i), type := ty0, pos := pos, after := after, guard := none } :: rest) a w) :
    wpListIn F n P ops Q ({ dst := dst, op := .load ty (.tmp i), type := ty0, pos := pos, after := after, guard := none } :: rest) a w := h
theorem at_storeIn {ty ty0 : TypeId} {pos : String} {after : Array Edge} (i j : Nat)
    (h : wpListIn F n P ops Q ({ dst := none, op := .store ty (.tmp i) (.tmp j), type := ty0, pos := pos, after := after, guard := none } :: rest) a w) :
    wpListIn F n P ops Q ({ dst := none, op := .store ty (.tmp i) (.tmp j), type := ty0, pos := pos, after := after, guard := none } :: rest) a w := h
theorem at_appendIn {t t' ty0 : TypeId} {pos : String} {after : Array Edge} (d i j : Nat)
    (h : wpListIn F n P ops Q ({ dst := some d, op := .call { callee := .builtin .append, args := #[.tmp i, .tmp j], argTypes := #[t, t'] }, type := ty0, pos := pos, after := after, guard := none } :: rest) a w) :
    wpListIn F n P ops Q ({ dst := some d, op := .call { callee := .builtin .append, args := #[.tmp i, .tmp j], argTypes := #[t, t'] }, type := ty0, pos := pos, after := after, guard := none } :: rest) a w := h
variable {α : Type} {enc : α → List Value} {k : Nat} {e t : TypeId}
theorem CellTy.wpListIn_load (T : CellTy P e enc k) (hg : o.guard = none) (x : Operand) (ho : o.op = .load e x) (g off : Nat) (hx : a.eval x = .pointer (some ⟨g, off, none⟩)) (y : α) (hgc : RowC w g off (enc y))
    (h : wpListIn F n P ops Q rest (a.put o.dst (.agg (enc y).toArray)) w) : wpListIn F n P ops Q (o :: rest) a w := by
  refine wpListIn_run hg (by rw [ho]; intro c hc; cases hc) (by simp [Oper.about, ho]) _ w ?_ h
  unfold execOp
  simp only [ho, hx, Instr.loadAt, Instr.sureAddr, Sem.run_bind, Sem.run_pure, Result.andThen_ok, T.load w g off y hgc]
theorem RowTy.wpListIn_load (T : RowTy P t e enc k) (hg : o.guard = none) (x : Operand) (ho : o.op = .load e x) (g off : Nat) (hx : a.eval x = .pointer (some ⟨g, off, none⟩)) (y : α) (hgc : RowC w g off (enc y))
    (h : wpListIn F n P ops Q rest (a.put o.dst (.agg (enc y).toArray)) w) : wpListIn F n P ops Q (o :: rest) a w := by
  refine wpListIn_run hg (by rw [ho]; intro c hc; cases hc) (by simp [Oper.about, ho]) _ w ?_ h
  unfold execOp
  simp only [ho, hx, Instr.loadAt, Instr.sureAddr, Sem.run_bind, Sem.run_pure, Result.andThen_ok, T.load w g off y hgc]
theorem setRow_new (w : World) (cs v : Array Value) (t : TypeId) : (w.alloc (.cells cs t)).setRow w.heap.size v = w.alloc (.cells v t) := by
  unfold World.setRow World.alloc
  congr 1
  apply Array.ext
  · simp
  · intro i h1 h2
    simp only [Array.size_modify, Array.size_push] at h1
    rw [Array.getElem_modify]
    by_cases hi : w.heap.size = i
    · subst hi
      simp
    · rw [if_neg hi]
      have : i < w.heap.size := by omega
      rw [Array.getElem_push_lt this, Array.getElem_push_lt this]
/-- a value of k cells into a block that was just laid: as if it had been laid so -/
theorem CellTy.wpListIn_storeNew (T : CellTy P e enc k) {w0 : World} {cs : Array Value} {te : TypeId} (hg : o.guard = none) (x y : Operand) (ho : o.op = .store e x y) (hdst : o.dst = none) (v : α) (hx : a.eval x = .pointer (some ⟨w0.heap.size, 0, none⟩)) (hy : a.eval y = .agg (enc v).toArray) (hcs : cs.size = k)
    (h : wpListIn F n P ops Q rest a (w0.alloc (.cells (enc v).toArray te))) : wpListIn F n P ops Q (o :: rest) a (w0.alloc (.cells cs te)) := by
  have hst := run_storeCells_at P w0.heap.size 0 te (enc v) 0 cs (w0.alloc (.cells cs te)) (Blk.new w0 te cs) (by rw [T.len]; omega) (T.one v)
  have he : ((cs.toList.take (0 + 0) ++ enc v ++ cs.toList.drop (0 + 0 + (enc v).length)).toArray) = (enc v).toArray := by
    rw [T.len]
    have : cs.toList.drop (0 + 0 + k) = [] := List.drop_of_length_le (by rw [Array.length_toList]; omega)
    rw [this]
    simp
  rw [he, setRow_new] at hst
  refine wpListIn_runS hg (by rw [ho]; intro c hc; cases hc) (by simp [Oper.about, ho]) hdst _ ?_ h
  have hrun : (storeVar e ⟨w0.heap.size, 0, none⟩ (.agg (enc v).toArray)).run P (w0.alloc (.cells cs te)) = .ok () (w0.alloc (.cells (enc v).toArray te)) := by
    simp [storeVar, T.sizeOf, Value.cells, T.len, hst]
  unfold execOp
  simp only [ho, hx, hy, Instr.storeAt, Instr.sureAddr, Sem.run_bind, Sem.run_pure, Result.andThen_ok, hrun]
/-- a slice that came in put behind an own row, inside a fence -/
theorem RowTy.wpListIn_appendIn (T : RowTy P t e enc k) (hgd : o.guard = none) (hz : ((P.info? e).bind (·.zero)).map (·.cells.size) = some k) (bytes : Nat) (hb : (P.info? e).map (·.bytes) = some bytes) (hby : bytes ≤ 100000) (s x : Operand)
    (ho : o.op = .call { callee := .builtin .append, args := #[s, x], argTypes := #[t, t] })
    (base : Nat) (v : Value) (l : List α) (hs : a.eval s = v) (hown : w.ownsRow base e k v l.length (cellsOf enc l))
    (B : Nat) (A : Option Addr) (c : Nat) (m : List α) (hx : a.eval x = .slice A m.length c) (hg : RowIn enc k w B A c m) (hn : l.length + m.length ≤ 1000000) (hbase : base ≤ w.heap.size)
    (h : ∀ v' w', w'.ownsRow base e k v' (l ++ m).length (cellsOf enc (l ++ m)) → w.grownBy w' v.ownBlock → wpListIn F n P ops Q rest (a.put o.dst v') w') : wpListIn F n P ops Q (o :: rest) a w := by
  have hsz := T.size
  cases hie : P.info? e with
  | none => simp [hie] at hsz
  | some ie =>
    simp only [hie, Option.map_some, Option.some.injEq, Option.bind_some, Option.map_eq_some_iff] at hsz hz hb
    obtain ⟨z, hz1, hz2⟩ := hz
    obtain ⟨v', w', hr, h2, h3, _⟩ := run_append_any (P := P) (w := w) base t o.type e ie z k bytes T.slice hie hz1 hsz hb hz2 T.pos v l.length (cellsOf enc l) hown B A m.length c (cellsOf enc m) (hg.reads T.len) (cellsOf_all1 T.one _) (by unfold maxLen; omega) (by
      have : (l.length + m.length) * bytes ≤ 1000000 * 100000 := Nat.mul_le_mul hn hby
      omega) hbase
    refine wpListIn_plain hgd fun K hK => ?_
    unfold Oper.wpIn
    refine ⟨by simp [Oper.about, ho, resolve, Target.leads, Sem.run_pure], ?_⟩
    rw [Oper.semAt_plain F _ _ (by rw [ho]; intro c hc'; cases hc')]
    simp [execOp, ho, resolve, invoke, builtin, hs, hx, hr, Result.andThen]
    refine hK _ _ (h v' w' ?_ h3)
    rw [List.length_append, cellsOf_append]
    exact h2
end
end Go.Proofs.YthpnmmilioonhaaDoor
