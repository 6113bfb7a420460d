/- A cut of a slice, and any operation that only reads, in a quiet region. Over any program. -/
import Derived.Test.YtgcopgnkfokphaaQuiet3
namespace Go.Proofs.Ytgcopgnkfokphaa
open Go.RowKit
section
variable {P : Program} {ops : Array Oper} {C : World → Prop} {Q : Act → Prop} {a : Act} {rest : List Oper}
theorem at_qslice {ty ty0 : TypeId} {x : Operand} {lo hi mx : Option Operand} {pos : String} {after : Array Edge} {gd : Option (Nat × Bool)} (d : Nat)
    (h : wpQuiet P ops C Q ({ dst := some d, op := .slice ty x lo hi mx, type := ty0, pos := pos, after := after, guard := gd } :: rest) a) :
    wpQuiet P ops C Q ({ dst := some d, op := .slice ty x lo hi mx, type := ty0, pos := pos, after := after, guard := gd } :: rest) a := h
theorem wpQuiet_of_run {o : Oper} (hw : Region.wanted o (yielded ops a.tmps) = true) (v : Value) (hg : ∀ w, C w → (execOp a.eval o).run P w = .ok (.value v) w)
    (h : wpQuiet P ops C Q rest (a.put o.dst v)) : wpQuiet P ops C Q (o :: rest) a :=
  wpQuiet_step fun K hK => by
    rw [if_pos hw]
    refine ⟨v, fun w hC => ?_, hK _ h⟩
    unfold Oper.quietAt
    rw [hg w hC]
    exact ⟨rfl, rfl⟩
end
end Go.Proofs.Ytgcopgnkfokphaa
