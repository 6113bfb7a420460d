/- OracleGood's walk, over the project's own functions. Written by genWV.py. -/
import Derived.Test.YthepiegaoekccaaLVf
import Derived.Test.YthepiegaoekccaaVdC
namespace Go.Proofs.Ythepiegaoekccaa
open Go.RowKit
theorem vdGood_w (A0 : Option Addr) (c0 : Nat) (l0 : List VdV) (s1 : List UInt8) (n2 : Int) (n3 : Int) (w : World) (h0 : RowIn encVd 34 w w.heap.size A0 c0 l0) (h1 : s1.length = 32) (h2 : (Lit.int .u8 n2).wf = true) (h3 : (Lit.int .u8 n3).wf = true) : Calls Try.prog 4 #[.slice A0 l0.length c0, .agg (bytesA s1), .int .u8 n2, .int .u8 n3] w fun e w' => e = .returned (.bool true) ∧ Below w.heap.size w w' := by
  rw [show bytesA s1 = (encK ⟨s1, h1⟩).toArray from (encK_arr ⟨s1, h1⟩).symm]
  exact vdGood_walk pLook_v pAll_v pGood_v A0 c0 l0 ⟨s1, h1⟩ ⟨n2, h2⟩ ⟨n3, h3⟩ w h0
end Go.Proofs.Ythepiegaoekccaa
