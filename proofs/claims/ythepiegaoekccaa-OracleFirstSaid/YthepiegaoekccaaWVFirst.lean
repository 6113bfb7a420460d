/- OracleFirst's walk, over the project's own functions. Written by genWV.py. -/
import Derived.Test.YthepiegaoekccaaLVg
import Derived.Test.YthepiegaoekccaaVdC
namespace Go.Proofs.Ythepiegaoekccaa
open Go.RowKit
theorem vdFirst_w (A0 : Option Addr) (c0 : Nat) (l0 : List VdV) (s1 : List UInt8) (s2 : List UInt8) (n3 : Int) (b4 : Bool) (w : World) (h0 : RowIn encVd 34 w w.heap.size A0 c0 l0) (h1 : s1.length = 32) (h2 : s2.length = 32) (h3 : (Lit.int .i64 n3).wf = true) : Calls Try.prog 5 #[.slice A0 l0.length c0, .agg (bytesA s1), .agg (bytesA s2), .int .i64 n3, .bool b4] w fun e w' => e = .returned (.bool true) ∧ Below w.heap.size w w' := by
  rw [show bytesA s1 = (encK ⟨s1, h1⟩).toArray from (encK_arr ⟨s1, h1⟩).symm]
  rw [show bytesA s2 = (encK ⟨s2, h2⟩).toArray from (encK_arr ⟨s2, h2⟩).symm]
  exact vdFirst_walk pLook_v pAll_v pGood_v A0 c0 l0 ⟨s1, h1⟩ ⟨s2, h2⟩ ⟨n3, h3⟩ b4 w h0
end Go.Proofs.Ythepiegaoekccaa
