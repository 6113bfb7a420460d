/- Guarded operations of a plain region: a whole array loaded, two arrays compared. Over any program. -/
import Derived.Test.YtgcopgnkfokphaaOnly
namespace Go.Proofs.Ytgcopgnkfokphaa
open Go.RowKit
section
variable {P : Program} {ops : Array Oper} {rest : List Oper} {o : Oper} {a : Act} {w : World} {Q : Exit → Act → World → Prop}
theorem wpList_load_rowg (hw : Region.wanted o (yielded ops a.tmps) = true) (ty : TypeId) (x : Operand) (ho : o.op = .load ty x)
    (g : Nat) (hx : a.eval x = .pointer (some ⟨g, 0, none⟩)) (t : TypeId) (cs : Array Value) (d : TypeDesc) (hg : Blk w g t cs)
    (hu : P.underlying ty = some d) (hd : (match d with | .struct _ | .array _ _ => true | _ => false) = true) (hi : (P.info? ty).map (·.size) = some cs.size)
    (h : wpList P ops Q rest (a.put o.dst (.agg cs)) w) : wpList P ops Q (o :: rest) a w :=
  wpList_step fun _ hK => by rw [if_pos hw]; exact wp_load_row ty x ho g hx t cs (0, 0) d hg hu hd hi (hK _ _ h)
theorem wpList_eql_rowg (hw : Region.wanted o (yielded ops a.tmps) = true) (ty yt : TypeId) (x y : Operand) (ho : o.op = .binOp .eql ty x y yt)
    (cx cy : Array Value) (hx : a.eval x = .agg cx) (hy : a.eval y = .agg cy) (hg : P.eqGuardType P.depth ty = false) (r : Bool) (he : ∀ V, (Op.equal ty (.agg cx) (.agg cy)).run P V = .ok r V)
    (h : wpList P ops Q rest (a.put o.dst (.bool r)) w) : wpList P ops Q (o :: rest) a w :=
  wpList_step fun K hK => by
    rw [if_pos hw]
    have h' := hK _ _ h
    have hrun : (execOp a.eval o).run P w = .ok (.value (.bool r)) w := by
      unfold execOp
      simp only [ho, hx, hy]
      unfold eqGuard binOp
      simp [go_sem, hg, he]
    unfold Oper.wp
    rw [hrun, Oper.upon_value]
    exact h'
/-- a guard: it fits at a load from the address in slot i alone, guarded or not -/
theorem at_loadg {dst : Option Tmp} {ty ty0 : TypeId} {pos : String} {after : Array Edge} {gd : Option (Nat × Bool)} (i : Nat)
    (h : wpList P ops Q ({ dst := dst, op := .load ty (.tmp i), type := ty0, pos := pos, after := after, guard := gd } :: rest) a w) :
    wpList P ops Q ({ dst := dst, op := .load ty (.tmp i), type := ty0, pos := pos, after := after, guard := gd } :: rest) a w := h
/-- a guard: it fits at an '==' of the slots i and j alone, guarded or not -/
theorem at_eqlg {dst : Option Tmp} {ty yt ty0 : TypeId} {pos : String} {after : Array Edge} {gd : Option (Nat × Bool)} (i j : Nat)
    (h : wpList P ops Q ({ dst := dst, op := .binOp .eql ty (.tmp i) (.tmp j) yt, type := ty0, pos := pos, after := after, guard := gd } :: rest) a w) :
    wpList P ops Q ({ dst := dst, op := .binOp .eql ty (.tmp i) (.tmp j) yt, type := ty0, pos := pos, after := after, guard := gd } :: rest) a w := h
end
end Go.Proofs.Ytgcopgnkfokphaa
