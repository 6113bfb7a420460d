/- AnchorBack's walk, over the project's own functions. Written by genWA.py. -/
import Derived.Test.YtiifamfophbbcaaLABack
import Derived.Test.YtiifamfophbbcaaAnpC
namespace Go.Proofs.Ytiifamfophbbcaa
open Go.RowKit
theorem aback_w (s0 : List UInt8) (A1 : Option Addr) (c1 : Nat) (l1 : List K32) (n2 : Int) (w : World) (h0 : s0.length = 32) (h1 : RowIn encK 32 w w.heap.size A1 c1 l1) (h2 : (Lit.int .u8 n2).wf = true) : Calls Try.prog 5 #[.agg (bytesA s0), .slice A1 l1.length c1, .int .u8 n2] w fun e w' => e = .returned (.bool true) ∧ Below w.heap.size w w' := by
  rw [show bytesA s0 = (encK ⟨s0, h0⟩).toArray from (encK_arr ⟨s0, h0⟩).symm]
  exact aback_walk pNew_r pPut_r pBack_r pHas_r ⟨s0, h0⟩ A1 c1 l1 n2 w h1 h2
end Go.Proofs.Ytiifamfophbbcaa
