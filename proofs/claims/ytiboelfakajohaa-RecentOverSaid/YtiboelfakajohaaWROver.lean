/- RecentOver's walk, over the project's own functions. Written by genWR.py. -/
import Derived.Test.YtiboelfakajohaaLRd
import Derived.Test.YtiboelfakajohaaRcX
namespace Go.Proofs.Ytiboelfakajohaa
open Go.RowKit
theorem rcOver_w (A0 : Option Addr) (c0 : Nat) (l0 : List ItV) (n1 : Int) (n2 : Int) (s3 : List UInt8) (w : World) (h0 : RowIn (encKI .u64) 33 w w.heap.size A0 c0 l0) (h1 : (Lit.int .u64 n1).wf = true) (h2 : (Lit.int .u64 n2).wf = true) (h3 : s3.length = 32) : Calls Try.prog 6 #[.slice A0 l0.length c0, .int .u64 n1, .int .u64 n2, .agg (bytesA s3)] w fun e w' => e = .returned (.bool true) ∧ Below w.heap.size w w' := by
  rw [show bytesA s3 = (encK ⟨s3, h3⟩).toArray from (encK_arr ⟨s3, h3⟩).symm]
  exact rcOver_walk pPut_i pHas_i pOld_i A0 c0 l0 ⟨n1, h1⟩ ⟨n2, h2⟩ ⟨s3, h3⟩ w h0
end Go.Proofs.Ytiboelfakajohaa
