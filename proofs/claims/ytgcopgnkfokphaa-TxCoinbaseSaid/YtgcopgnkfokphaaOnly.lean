/- 'Only L w w'': of the blocks of w those in L alone may have turned; none is new. -/
import Derived.Test.YtgcopgnkfokphaaMem
import Derived.Great.BuildSlice
namespace Go.Proofs.Ytgcopgnkfokphaa
open Go.RowKit
structure Only (L : List Nat) (w w' : World) : Prop where
  os : w'.os = w.os
  tape : w'.tape = w.tape
  output : w'.output = w.output
  size : w'.heap.size = w.heap.size
  block : ∀ k, k ∉ L → w'.heap[k]? = w.heap[k]?
section
variable {L : List Nat} {a w w' : World}
theorem Only.refl (L : List Nat) (w : World) : Only L w w := ⟨rfl, rfl, rfl, rfl, fun _ _ => rfl⟩
theorem Only.trans {b c : World} (h : Only L a b) (k : Only L b c) : Only L a c :=
  ⟨k.os.trans h.os, k.tape.trans h.tape, k.output.trans h.output, k.size.trans h.size, fun i hi => (k.block i hi).trans (h.block i hi)⟩
theorem Only.drew (h : Only L a w) : Only L a w.drew := ⟨h.os, h.tape, h.output, h.size, h.block⟩
theorem Only.drewN (h : Only L a w) (n : Nat) : Only L a (w.drewN n) := ⟨h.os, h.tape, h.output, h.size, h.block⟩
theorem Only.setCell (h : Only L a w) {p : Addr} (hp : p.block ∈ L) (u : Value) : Only L a (w.setCell p u) :=
  ⟨h.os, h.tape, h.output, by simpa [World.setCell] using h.size, fun k hk => (Below.heap_setCell w p u k (fun e => hk (e ▸ hp))).trans (h.block k hk)⟩
theorem Only.blk (h : Only L w w') {g : Nat} {t : TypeId} {cs : Array Value} (hb : Blk w g t cs) (hg : g ∉ L) : Blk w' g t cs := (h.block g hg).trans hb
theorem Only.below {B : Nat} (h : Only L w w') (hL : ∀ k ∈ L, B ≤ k) : Below B w w' :=
  ⟨h.os, h.tape, h.output, Nat.le_of_eq h.size.symm, fun k hk => h.block k (fun hm => by have := hL k hm; omega)⟩
theorem Only.cell (h : Only L w w') {p : Addr} (hp : p.block ∉ L) : w'.cell? p = w.cell? p := World.cell?_of_block (w := w) (h.block p.block hp)
end
theorem blk_new {w : World} {g : Nat} (t : TypeId) (cs : Array Value) (h : g = w.heap.size) : Blk (w.alloc (.cells cs t)) g t cs := h ▸ Blk.new w t cs
theorem Only.mono {L L' : List Nat} {w w' : World} (h : Only L w w') (hL : ∀ k ∈ L, k ∈ L') : Only L' w w' :=
  ⟨h.os, h.tape, h.output, h.size, fun k hk => h.block k (fun hm => hk (hL k hm))⟩
theorem only_setRow {w : World} {g : Nat} {t : TypeId} {cs : Array Value} (h : Blk w g t cs) (v : Array Value) : Only [g] w (w.setRow g v) ∧ Blk (w.setRow g v) g t v := by
  unfold Blk at h ⊢
  refine ⟨⟨rfl, rfl, rfl, by simp [World.setRow], fun k hk => ?_⟩, ?_⟩
  · simp only [World.setRow, Array.getElem?_modify]
    rw [if_neg (fun e => hk (by simp [e]))]
  · simp [World.setRow, Array.getElem?_modify, h]
/-- A store into a block of one cell: the world behind it is a name. -/
theorem wpList_store_blk {P : Program} {ops : Array Oper} {rest : List Oper} {o : Oper} {a : Act} {w : World} {Q : Exit → Act → World → Prop} (hgd : o.guard = none) (ty : TypeId) (x y : Operand) (ho : o.op = .store ty x y)
    (hd : o.dst = none) (g : Nat) (v : Value) (hx : a.eval x = .pointer (some ⟨g, 0, none⟩)) (hy : a.eval y = v) (h1 : v.oneCell' = true)
    (t : TypeId) (old : Value) (hg : Blk w g t #[old]) (hi : (P.info? ty).map (·.size) = some 1)
    (h : ∀ w', Only [g] w w' → Blk w' g t #[v] → wpList P ops Q rest a w') : wpList P ops Q (o :: rest) a w :=
  wpList_store_oneTo hgd ty x y ho hd g v hx hy h1 t old hg hi (h _ (only_setRow hg _).1 (only_setRow hg _).2)
theorem only_setCell1 {w : World} {g : Nat} {t : TypeId} {cs : Array Value} (h : Blk w g t cs) (i : Nat) (v : Value) : Only [g] w (w.setCell ⟨g, i, none⟩ v) ∧ Blk (w.setCell ⟨g, i, none⟩ v) g t (cs.setIfInBounds i v) :=
  ⟨(Only.refl _ _).setCell (by simp) _, h.set_ i v⟩
/-- A store of a value of one cell into cell i of a block known whole. -/
theorem wpList_store_cell {P : Program} {ops : Array Oper} {rest : List Oper} {o : Oper} {a : Act} {w : World} {Q : Exit → Act → World → Prop} (hgd : o.guard = none) (ty : TypeId) (x y : Operand) (ho : o.op = .store ty x y)
    (hd : o.dst = none) (g i : Nat) (v : Value) (hx : a.eval x = .pointer (some ⟨g, i, none⟩)) (hy : a.eval y = v) (h1 : v.oneCell' = true)
    (t : TypeId) (cs : Array Value) (hg : Blk w g t cs) (hi : i < cs.size) (hs : (P.info? ty).map (·.size) = some 1)
    (h : ∀ w', Only [g] w w' → Blk w' g t (cs.setIfInBounds i v) → wpList P ops Q rest a w') : wpList P ops Q (o :: rest) a w :=
  wpList_plain hgd fun _ hK => by
    subst hy
    have hrun : (storeVar ty ⟨g, i, none⟩ (a.eval y)).run P w = .ok () (w.setCell ⟨g, i, none⟩ (a.eval y)) := by
      have hcell : w.cell? ⟨g, i, none⟩ = some cs[i] := (hg.cell i).trans (Array.getElem?_eq_getElem hi)
      have hc : (a.eval y).cells = #[a.eval y] := by generalize a.eval y = v at h1; cases v <;> first | rfl | cases h1
      cases hq : P.info? ty with
      | none => simp [hq] at hs
      | some inf =>
        have hz : inf.size = 1 := by simpa [hq] using hs
        have hadd : (⟨g, i, none⟩ : Addr).add 0 = ⟨g, i, none⟩ := by simp [Addr.add]
        simp [storeVar, sizeOf, typeInfo, hq, hc, hz, storeCells, hadd, run_store P w _ _ _ h1, hcell, hg.frozen i]
    unfold Oper.wp execOp
    simp only [ho, hx, Instr.storeAt, Instr.sureAddr, Sem.run_bind, Sem.run_pure, Result.andThen_ok, hrun]
    rw [Oper.upon_skip, hd]
    exact hK _ _ (h _ (only_setCell1 hg i _).1 (only_setCell1 hg i _).2)
/-- A guard for the walk: it fits at a store of slot j at the address in slot i alone. -/
theorem at_store {P : Program} {ops : Array Oper} {rest : List Oper} {a : Act} {w : World} {Q : Exit → Act → World → Prop} {ty ty0 : TypeId} {pos : String} {after : Array Edge} (i j : Nat)
    (h : wpList P ops Q ({ dst := none, op := .store ty (.tmp i) (.tmp j), type := ty0, pos := pos, after := after, guard := none } :: rest) a w) :
    wpList P ops Q ({ dst := none, op := .store ty (.tmp i) (.tmp j), type := ty0, pos := pos, after := after, guard := none } :: rest) a w := h
/-- the same at a load from the address in slot i -/
theorem at_load {P : Program} {ops : Array Oper} {rest : List Oper} {a : Act} {w : World} {Q : Exit → Act → World → Prop} {dst : Option Tmp} {ty ty0 : TypeId} {pos : String} {after : Array Edge} (i : Nat)
    (h : wpList P ops Q ({ dst := dst, op := .load ty (.tmp i), type := ty0, pos := pos, after := after, guard := none } :: rest) a w) :
    wpList P ops Q ({ dst := dst, op := .load ty (.tmp i), type := ty0, pos := pos, after := after, guard := none } :: rest) a w := h
/-- A store of a whole array into a block of its type: the world behind it is a name. -/
theorem wpList_store_arr {P : Program} {ops : Array Oper} {rest : List Oper} {o : Oper} {a : Act} {w : World} {Q : Exit → Act → World → Prop} (hgd : o.guard = none) (ty : TypeId) (x y : Operand) (ho : o.op = .store ty x y)
    (hd : o.dst = none) (g : Nat) (cells : Array Value) (hx : a.eval x = .pointer (some ⟨g, 0, none⟩)) (hy : a.eval y = .agg cells)
    (t : TypeId) (old : Array Value) (hg : Blk w g t old) (hi : (P.info? ty).map (·.size) = some cells.size)
    (hold : old.size = cells.size) (h1 : cells.all (·.oneCell') = true)
    (h : ∀ w', Only [g] w w' → Blk w' g t cells → wpList P ops Q rest a w') : wpList P ops Q (o :: rest) a w :=
  wpList_store_rowTo hgd ty x y ho hd g cells hx hy t old hg hi hold h1 (h _ (only_setRow hg _).1 (only_setRow hg _).2)
/-- 'a[i]' of an array by value whose elements are integers. -/
theorem run_index_one {P : Program} (t e : TypeId) (n : Nat) (cs : Array Value) (k kk : IntKind) (i : Nat) (v : Value) (h : P.underlying t = some (.array n e)) (hu : P.underlying e = some (.int kk))
    (hs : (P.info? e).map (·.size) = some 1) (hi : i < n) (hc : cs[i]? = some v) (w : World) : (Instr.index t (.agg cs) (.int k (i : Int))).run P w = .ok v w := by
  cases hq : P.info? e with
  | none => simp [hq] at hs
  | some inf =>
    have hz : inf.size = 1 := by simpa [hq] using hs
    simp [Instr.index, run_underlying h, asIntOf, part, isAgg, run_underlying hu, sizeOf, typeInfo, hq, hz, hi, hc]
theorem below_blk {B : Nat} {w w' : World} (h : Below B w w') {g : Nat} {t : TypeId} {cs : Array Value} (hb : Blk w g t cs) (hg : g < B) : Blk w' g t cs := (h.block g hg).trans hb
end Go.Proofs.Ytgcopgnkfokphaa
