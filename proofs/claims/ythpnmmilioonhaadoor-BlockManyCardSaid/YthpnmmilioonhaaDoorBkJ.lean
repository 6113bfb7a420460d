/- Steps that the laws of layer 6 want: guarded makings, '==' of rows and loads in a held region. -/
import Derived.Test.YthpnmmilioonhaaDoorBkH
namespace Go.Proofs.YthpnmmilioonhaaDoor
open Go.RowKit
section
variable {P : Program} {ops : Array Oper} {S : World → Prop} {a : Act} {o : Oper} {rest : List Oper} {w : World} {Q : Exit → Act → World → Prop}
theorem wpList_unguard (hw : Region.wanted o (yielded ops a.tmps) = true) (h : wpList P ops Q ({ o with guard := none } :: rest) a w) : wpList P ops Q (o :: rest) a w := by
  unfold wpList at h ⊢
  rw [if_pos (by simp [Region.wanted])] at h
  rw [if_pos hw]
  exact h
theorem yieldsIf_eql_row (hw : Region.wanted o (yielded ops a.tmps) = true) (ty yt : TypeId) (x y : Operand) (ho : o.op = .binOp .eql ty x y yt)
    (cx cy : Array Value) (hx : a.eval x = .agg cx) (hy : a.eval y = .agg cy) (hg : P.eqGuardType P.depth ty = false) (r : Bool) (he : ∀ V, (Op.equal ty (.agg cx) (.agg cy)).run P V = .ok r V) : YieldsIf P ops S o (.bool r) a :=
  .inl ⟨hw, fun w _ => by
    unfold execOp
    simp only [ho, hx, hy]
    unfold eqGuard binOp
    simp [go_sem, hg, he]⟩
theorem CellTy.yieldsIf_load {α : Type} {enc : α → List Value} {k : Nat} {t : TypeId} (T : CellTy P t enc k) (hw : Region.wanted o (yielded ops a.tmps) = true) (x : Operand) (ho : o.op = .load t x)
    (g off : Nat) (hx : a.eval x = .pointer (some ⟨g, off, none⟩)) (y : α) (hg : ∀ W, S W → RowC W g off (enc y)) : YieldsIf P ops S o (.agg (enc y).toArray) a :=
  .inl ⟨hw, fun w hS => by
    unfold execOp
    simp only [ho, hx, Instr.loadAt, Instr.sureAddr, Sem.run_bind, Sem.run_pure, Result.andThen_ok, T.load w g off y (hg w hS)]⟩
end
end Go.Proofs.YthpnmmilioonhaaDoor
