/- RecentLast's walk, over the project's own functions. Written by genWR.py. -/
import Derived.Test.YtiboelfakajohaaLRf
import Derived.Test.YtiboelfakajohaaRcX
namespace Go.Proofs.Ytiboelfakajohaa
open Go.RowKit
theorem rcLast_w (A0 : Option Addr) (c0 : Nat) (l0 : List (IntV .u8)) (n1 : Int) (n2 : Int) (w : World) (h0 : RowIn (enc1 .u8) 1 w w.heap.size A0 c0 l0) (h1 : (Lit.int .u8 n1).wf = true) (h2 : (Lit.int .u8 n2).wf = true) : Calls Try.prog 4 #[.slice A0 l0.length c0, .int .u8 n1, .int .u8 n2] w fun e w' => e = .returned (.bool true) ∧ Below w.heap.size w w' := by
  exact rcLast_walk pPut_i pHas_i A0 c0 l0 ⟨n1, h1⟩ ⟨n2, h2⟩ w h0
end Go.Proofs.Ytiboelfakajohaa
