/- AnchorWindow's walk, over the project's own functions. Written by genWA.py. -/
import Derived.Test.YtiifamfophbbcaaLAWindow
import Derived.Test.YtiifamfophbbcaaAnpC
namespace Go.Proofs.Ytiifamfophbbcaa
open Go.RowKit
theorem awindow_w (s0 : List UInt8) (A1 : Option Addr) (c1 : Nat) (l1 : List K32) (s2 : List UInt8) (w : World) (h0 : s0.length = 32) (h1 : RowIn encK 32 w w.heap.size A1 c1 l1) (h2 : s2.length = 32) : Calls Try.prog 4 #[.agg (bytesA s0), .slice A1 l1.length c1, .agg (bytesA s2)] w fun e w' => e = .returned (.bool true) ∧ Below w.heap.size w w' := by
  rw [show bytesA s0 = (encK ⟨s0, h0⟩).toArray from (encK_arr ⟨s0, h0⟩).symm]
  rw [show bytesA s2 = (encK ⟨s2, h2⟩).toArray from (encK_arr ⟨s2, h2⟩).symm]
  exact awindow_walk pNew_r pPut_r pHas_r pLast_r ⟨s0, h0⟩ A1 c1 l1 ⟨s2, h2⟩ w h1
end Go.Proofs.Ytiifamfophbbcaa
