/- '!=' of arrays in a quiet region, guarded or not; in a plain region, too. Over any program. -/
import Derived.Test.YtgcopgnkfokphaaQuiet
import Derived.Test.YtgcopgnkfokphaaGuard
namespace Go.Proofs.Ytgcopgnkfokphaa
open Go.RowKit
section
variable {P : Program} {ops : Array Oper} {C : World → Prop} {Q : Act → Prop} {a : Act} {rest : List Oper}
theorem at_qneq {dst : Option Tmp} {ty yt ty0 : TypeId} {pos : String} {after : Array Edge} {gd : Option (Nat × Bool)} (i j : Nat)
    (h : wpQuiet P ops C Q ({ dst := dst, op := .binOp .neq ty (.tmp i) (.tmp j) yt, type := ty0, pos := pos, after := after, guard := gd } :: rest) a) :
    wpQuiet P ops C Q ({ dst := dst, op := .binOp .neq ty (.tmp i) (.tmp j) yt, type := ty0, pos := pos, after := after, guard := gd } :: rest) a := h
theorem wpQuiet_neq_row {o : Oper} (hw : Region.wanted o (yielded ops a.tmps) = true) (ty yt : TypeId) (x y : Operand) (ho : o.op = .binOp .neq ty x y yt)
    (cx cy : Array Value) (hx : a.eval x = .agg cx) (hy : a.eval y = .agg cy) (hg : P.eqGuardType P.depth ty = false) (r : Bool) (he : ∀ V, (Op.equal ty (.agg cx) (.agg cy)).run P V = .ok r V)
    (h : wpQuiet P ops C Q rest (a.put o.dst (.bool !r))) : wpQuiet P ops C Q (o :: rest) a :=
  wpQuiet_step fun K hK => by
    rw [if_pos hw]
    refine ⟨.bool !r, fun w hC => ?_, hK _ h⟩
    unfold Oper.quietAt execOp
    simp only [ho, hx, hy]
    unfold eqGuard binOp
    simp [go_sem, hg, he]
end
section
variable {P : Program} {ops : Array Oper} {rest : List Oper} {o : Oper} {a : Act} {w : World} {Q : Exit → Act → World → Prop}
theorem wpList_neq_rowg (hw : Region.wanted o (yielded ops a.tmps) = true) (ty yt : TypeId) (x y : Operand) (ho : o.op = .binOp .neq ty x y yt)
    (cx cy : Array Value) (hx : a.eval x = .agg cx) (hy : a.eval y = .agg cy) (hg : P.eqGuardType P.depth ty = false) (r : Bool) (he : ∀ V, (Op.equal ty (.agg cx) (.agg cy)).run P V = .ok r V)
    (h : wpList P ops Q rest (a.put o.dst (.bool !r)) w) : wpList P ops Q (o :: rest) a w :=
  wpList_step fun K hK => by
    rw [if_pos hw]
    have h' := hK _ _ h
    have hrun : (execOp a.eval o).run P w = .ok (.value (.bool !r)) w := by
      unfold execOp
      simp only [ho, hx, hy]
      unfold eqGuard binOp
      simp [go_sem, hg, he]
    unfold Oper.wp
    rw [hrun, Oper.upon_value]
    exact h'
theorem at_neqlg {dst : Option Tmp} {ty yt ty0 : TypeId} {pos : String} {after : Array Edge} {gd : Option (Nat × Bool)} (i j : Nat)
    (h : wpList P ops Q ({ dst := dst, op := .binOp .neq ty (.tmp i) (.tmp j) yt, type := ty0, pos := pos, after := after, guard := gd } :: rest) a w) :
    wpList P ops Q ({ dst := dst, op := .binOp .neq ty (.tmp i) (.tmp j) yt, type := ty0, pos := pos, after := after, guard := gd } :: rest) a w := h
end
end Go.Proofs.Ytgcopgnkfokphaa
