/- RecentTells's walk, over the project's own functions. Written by genWR.py. -/
import Derived.Test.YtiboelfakajohaaLRc
import Derived.Test.YtiboelfakajohaaRcX
namespace Go.Proofs.Ytiboelfakajohaa
open Go.RowKit
theorem rcTells_w (A0 : Option Addr) (c0 : Nat) (l0 : List ItV) (s1 : List UInt8) (n2 : Int) (w : World) (h0 : RowIn (encKI .u64) 33 w w.heap.size A0 c0 l0) (h1 : s1.length = 32) (h2 : (Lit.int .u64 n2).wf = true) : Calls Try.prog 3 #[.slice A0 l0.length c0, .agg (bytesA s1), .int .u64 n2] w fun e w' => e = .returned (.bool true) ∧ Below w.heap.size w w' := by
  rw [show bytesA s1 = (encK ⟨s1, h1⟩).toArray from (encK_arr ⟨s1, h1⟩).symm]
  exact rcTells_walk pPut_i pHas_i pOld_i A0 c0 l0 ⟨s1, h1⟩ ⟨n2, h2⟩ w h0
end Go.Proofs.Ytiboelfakajohaa
