/- tx.Decode. -/
import Derived.Test.YthpnmmilioonhaaTxZ
import Derived.Test.YthpnmmilioonhaaGenA
namespace Go.Proofs.Ythpnmmilioonhaa
open Go.RowKit
theorem results_cell_tmp1 {P : Program} {fn : Func} {p t1 : Tmp} {ty : TypeId} (h : fn.results = #[.cell p ty, .tmp t1]) (tmps : Array Value) (w : World) (g : Nat) (t : TypeId) (cs : Array Value) (fr : Nat × Nat) (d : TypeDesc)
    (hp : tmps.getD p undef = .pointer (some ⟨g, 0, none⟩)) (hg : w.heap[g]? = some (.cells cs t fr))
    (hu : P.underlying ty = some d) (hd : (match d with | .struct _ | .array _ _ => true | _ => false) = true) (hi : (P.info? ty).map (·.size) = some cs.size) :
    (results fn tmps).run P w = .ok (.tuple #[.agg cs, tmps.getD t1 undef]) w := by
  have hp' : tmps[p]?.getD undef = .pointer (some ⟨g, 0, none⟩) := by simpa using hp
  simp [results, h, hp', asAddr, run_loadVar_row w g t ty cs fr d hg hu hd hi]
/-- what Decode's answer is -/
def EndD (w : World) (x : TxV × Int) (e : Ending) (w' : World) : Prop :=
  (∃ a : TxA, a.T = x.1 ∧ e = .returned (.tuple #[.agg a.cells.toArray, .int .i64 x.2]) ∧ TL w' a) ∧ Below w.heap.size w w'
end Go.Proofs.Ythpnmmilioonhaa
