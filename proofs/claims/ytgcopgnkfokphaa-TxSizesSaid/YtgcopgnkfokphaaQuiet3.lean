/- A load of one cell in a quiet region. Over any program. -/
import Derived.Test.YtgcopgnkfokphaaQuiet2
namespace Go.Proofs.Ytgcopgnkfokphaa
open Go.RowKit
theorem run_loadVar_one {P : Program} {ty : TypeId} (ha : ∀ w, (isAgg ty).run P w = .ok false w) {w : World} {p : Addr} {v : Value} (hc : w.cell? p = some v) : (loadVar ty p).run P w = .ok v w := by
  simp [loadVar, ha, run_load, hc]
section
variable {P : Program} {ops : Array Oper} {C : World → Prop} {Q : Act → Prop} {a : Act} {rest : List Oper}
theorem wpQuiet_load_one {o : Oper} (hw : Region.wanted o (yielded ops a.tmps) = true) (ty : TypeId) (x : Operand) (ho : o.op = .load ty x)
    (p : Addr) (hx : a.eval x = .pointer (some p)) (v : Value) (ha : ∀ w, (isAgg ty).run P w = .ok false w) (hg : ∀ w, C w → w.cell? p = some v)
    (h : wpQuiet P ops C Q rest (a.put o.dst v)) : wpQuiet P ops C Q (o :: rest) a :=
  wpQuiet_step fun K hK => by
    rw [if_pos hw]
    refine ⟨v, fun w hC => ?_, hK _ h⟩
    unfold Oper.quietAt execOp
    simp only [ho, hx, Instr.loadAt, Instr.sureAddr, Sem.run_bind, Sem.run_pure, Result.andThen_ok, run_loadVar_one ha (hg w hC)]
    exact ⟨rfl, rfl⟩
end
end Go.Proofs.Ytgcopgnkfokphaa
