/- The reference's Same and Has. -/
import Derived.Test.YtimhophelecmjaaKeyS
import Derived.Test.YtimhophelecmjaaKeyR
import Derived.Test.YtimhophelecmjaaGenA
namespace Go.Proofs.Ytimhophelecmjaa
open Go.RowKit Go.Sort
theorem eqK_run (x y : K32) (V : World) : (Op.equal 24 (.agg (bytesA x.1)) (.agg (bytesA y.1))).run Try.prog V = .ok (decide (x = y)) V := by
  rw [show (decide (x = y)) = decide (x.1 = y.1) by rw [decide_eq_decide]; exact Subtype.ext_iff]
  exact run_eq_bytes V Try.underlying24 Try.underlying5 (by kernel_rfl) x.1 y.1 x.2 y.2
end Go.Proofs.Ytimhophelecmjaa
