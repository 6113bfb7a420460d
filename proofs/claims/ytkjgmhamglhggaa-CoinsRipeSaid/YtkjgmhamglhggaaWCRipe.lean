/- CoinsRipe's walk, over the project's own functions. Written by genWC.py. -/
import Derived.Test.YtkjgmhamglhggaaLCoRipe
import Derived.Test.YtkjgmhamglhggaaCoPF
import Derived.Test.YtkjgmhamglhggaaCoPY
import Derived.Test.YtkjgmhamglhggaaCoPZ
namespace Go.Proofs.Ytkjgmhamglhggaa
open Go.RowKit
theorem cripe_w (s0 : List UInt8) (s1 : List UInt8) (n2 : Int) (n3 : Int) (b4 : Bool) (w : World) (h0 : s0.length = 32) (h1 : s1.length = 32) (h2 : (Lit.int .u16 n2).wf = true) (h3 : (Lit.int .u8 n3).wf = true) : Calls Try.prog 5 #[.agg (bytesA s0), .agg (bytesA s1), .int .u16 n2, .int .u8 n3, .bool b4] w fun e w' => e = .returned (.bool true) ∧ Below w.heap.size w w' := by
  rw [show bytesA s0 = (encK ⟨s0, h0⟩).toArray from (encK_arr ⟨s0, h0⟩).symm]
  rw [show bytesA s1 = (encK ⟨s1, h1⟩).toArray from (encK_arr ⟨s1, h1⟩).symm]
  exact cripe_walk pApply_c pRipe_c ⟨s0, h0⟩ ⟨s1, h1⟩ n2 n3 b4 w h2 h3
end Go.Proofs.Ytkjgmhamglhggaa
