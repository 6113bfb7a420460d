/- AnchorEmpty's walk, over the project's own functions. Written by genWA.py. -/
import Derived.Test.YtiifamfophbbcaaLAEmpty
import Derived.Test.YtiifamfophbbcaaAnpC
namespace Go.Proofs.Ytiifamfophbbcaa
open Go.RowKit
theorem aempty_w (s0 : List UInt8) (w : World) (h0 : s0.length = 32) : Calls Try.prog 7 #[.agg (bytesA s0)] w fun e w' => e = .returned (.bool true) ∧ Below w.heap.size w w' := by
  rw [show bytesA s0 = (encK ⟨s0, h0⟩).toArray from (encK_arr ⟨s0, h0⟩).symm]
  exact aempty_walk pNew_r pPut_r pBack_r pHas_r pLast_r ⟨s0, h0⟩ w 
end Go.Proofs.Ytiifamfophbbcaa
