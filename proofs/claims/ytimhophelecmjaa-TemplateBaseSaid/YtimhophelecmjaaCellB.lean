/- Blocks that stand, of which one turns; a load and a store of one cell as steps of a region by hand; rows of numbers. Over any program. -/
import Derived.Test.YtimhophelecmjaaCellA
namespace Go.Proofs.Ytimhophelecmjaa
open Go.RowKit
section
variable {w W W' : World} {L : List (Nat × TypeId × Array Value)} {g : Nat} {t : TypeId} {cs cs' : Array Value}
/-- one of the blocks turns -/
theorem Holds.turn (h : Holds w ((g, t, cs) :: L) W) (o : Only [g] W W') (b : Blk W' g t cs') (hg : w.heap.size ≤ g) (hL : ∀ x ∈ L, x.1 ≠ g) : Holds w ((g, t, cs') :: L) W' :=
  ⟨h.below.trans (o.below (by simpa using hg)), fun x hx => by
    rcases List.mem_cons.1 hx with rfl | hx
    · exact b
    · exact o.blk (h.blks x (List.mem_cons_of_mem _ hx)) (by simpa using hL x hx)⟩
theorem Holds.alloc (h : Holds w L W) (ob : Obj) : Holds w L (W.alloc ob) := h.call ((Below.refl _ _).alloc (Nat.le_refl _) ob)
theorem Holds.more (h : Holds w L W) (hb : Blk W g t cs) : Holds w ((g, t, cs) :: L) W := ⟨h.below, fun x hx => by
    rcases List.mem_cons.1 hx with rfl | hx
    · exact hb
    · exact h.blks x hx⟩
theorem Holds.drop {y : Nat × TypeId × Array Value} (h : Holds w (y :: L) W) : Holds w L W := ⟨h.below, fun x hx => h.blks x (List.mem_cons_of_mem _ hx)⟩
theorem Holds.lt {x : Nat × TypeId × Array Value} (h : Holds w L W) (hx : x ∈ L) : x.1 < W.heap.size := (h.blks x hx).lt
end
section
variable {P : Program} {ops : Array Oper} {o : Oper} {a : Act} {w : World} {K : Act → World → Prop} {Q : Exit → Act → World → Prop} {E : Prop}
theorem step_load_one (hw : Region.wanted o (yielded ops a.tmps) = true) (ty : TypeId) (x : Operand) (ho : o.op = .load ty x)
    (p : Addr) (hx : a.eval x = .pointer (some p)) (v : Value) (ha : ∀ w, (isAgg ty).run P w = .ok false w) (hg : w.cell? p = some v) (h : K (a.put o.dst v) w) : if Region.wanted o (yielded ops a.tmps) = true then Oper.wp P o a w K Q else E := by
  rw [if_pos hw]
  unfold Oper.wp execOp
  simp only [ho, hx, Instr.loadAt, Instr.sureAddr, Sem.run_bind, Sem.run_pure, Result.andThen_ok, run_loadVar_one ha hg]
  exact h
theorem step_store_cell (hgd : o.guard = none) (ty : TypeId) (x y : Operand) (ho : o.op = .store ty x y)
    (hd : o.dst = none) (g i : Nat) (v : Value) (hx : a.eval x = .pointer (some ⟨g, i, none⟩)) (hy : a.eval y = v) (h1 : v.oneCell' = true)
    (t : TypeId) (cs : Array Value) (hg : Blk w g t cs) (hi : i < cs.size) (hs : (P.info? ty).map (·.size) = some 1)
    (h : ∀ w', Only [g] w w' → Blk w' g t (cs.setIfInBounds i v) → K a w') : if Region.wanted o (yielded ops a.tmps) = true then Oper.wp P o a w K Q else E := by
  have hw : Region.wanted o (yielded ops a.tmps) = true := by simp [Region.wanted, hgd]
  rw [if_pos hw]
  subst hy
  have hrun : (storeVar ty ⟨g, i, none⟩ (a.eval y)).run P w = .ok () (w.setCell ⟨g, i, none⟩ (a.eval y)) := by
    have hcell : w.cell? ⟨g, i, none⟩ = some cs[i] := (hg.cell i).trans (Array.getElem?_eq_getElem hi)
    have hc : (a.eval y).cells = #[a.eval y] := by generalize a.eval y = v at h1; cases v <;> first | rfl | cases h1
    cases hq : P.info? ty with
    | none => simp [hq] at hs
    | some inf =>
      have hz : inf.size = 1 := by simpa [hq] using hs
      have hadd : (⟨g, i, none⟩ : Addr).add 0 = ⟨g, i, none⟩ := by simp [Addr.add]
      simp [storeVar, sizeOf, typeInfo, hq, hc, hz, storeCells, hadd, run_store P w _ _ _ h1, hcell, hg.frozen i]
  unfold Oper.wp execOp
  simp only [ho, hx, Instr.storeAt, Instr.sureAddr, Sem.run_bind, Sem.run_pure, Result.andThen_ok, hrun]
  rw [Oper.upon_skip, hd]
  exact h _ (only_setCell1 hg i _).1 (only_setCell1 hg i _).2
end
theorem yieldsIf_cell {P : Program} {ops : Array Oper} {S : World → Prop} {a : Act} {o : Oper} (hw : Region.wanted o (yielded ops a.tmps) = true) (ty : TypeId) (x : Operand) (ho : o.op = .load ty x)
    (p : Addr) (hx : a.eval x = .pointer (some p)) (v : Value) (ha : ∀ w, (isAgg ty).run P w = .ok false w) (hg : ∀ w, S w → w.cell? p = some v) : YieldsIf P ops S o v a :=
  .inl ⟨hw, fun w hS => by
    unfold execOp
    simp only [ho, hx, Instr.loadAt, Instr.sureAddr, Sem.run_bind, Sem.run_pure, Result.andThen_ok, run_loadVar_one ha (hg w hS)]⟩
theorem RowC.cOnly {w w' : World} {L : List Nat} {g o : Nat} {cs : List Value} (h : RowC w g o cs) (hO : Only L w w') (hg : g ∉ L) : RowC w' g o cs := fun j v hj => by rw [hO.cell hg]; exact h j v hj
/-- blocks below a bound stay where only what is above it turns -/
theorem Holds.low {w W W' : World} {L : List (Nat × TypeId × Array Value)} {B : Nat} (h : Holds w L W) (hb : Below B W W') (hB : w.heap.size ≤ B) (hL : ∀ x ∈ L, x.1 < B) : Holds w L W' :=
  ⟨h.below.trans (hb.mono hB), fun x hx => below_blk hb (h.blks x hx) (hL x hx)⟩
/-- a row of numbers -/
def enc1 (q : IntKind) (z : IntV q) : List Value := [.int q z.1]
theorem enc1_len (q : IntKind) (z : IntV q) : (enc1 q z).length = 1 := rfl
end Go.Proofs.Ytimhophelecmjaa
