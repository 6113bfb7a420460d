/- keys.halves. -/
import Derived.Test.YtimhophelecmjaaKeyW
import Derived.Test.YtimhophelecmjaaKeyQ
import Derived.Test.YtimhophelecmjaaGenA
namespace Go.Proofs.Ytimhophelecmjaa
open Go.RowKit Go.Sort
theorem eqK_is {x y : K32} {r : Bool} (h : decide (x = y) = r) (V : World) : (Op.equal 24 (.agg (bytesA x.1)) (.agg (bytesA y.1))).run Try.prog V = .ok r V := h ▸ eqK_run x y V
theorem rowAgg : ∀ w, (isAgg 27).run Try.prog w = .ok false w := fun w => by simp [isAgg, run_underlying Try.underlying27]
theorem Gr.cell {w w' : World} (h : Gr w w') {p : Addr} {v : Value} (hc : w.cell? p = some v) : w'.cell? p = some v := (h.below.cell (p := p) (World.block_lt_of_cell? w p hc)).trans hc
end Go.Proofs.Ytimhophelecmjaa
