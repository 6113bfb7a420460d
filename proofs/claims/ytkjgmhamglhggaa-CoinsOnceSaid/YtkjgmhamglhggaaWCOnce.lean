/- CoinsOnce's walk, over the project's own functions. Written by genWC.py. -/
import Derived.Test.YtkjgmhamglhggaaLCoOnce
import Derived.Test.YtkjgmhamglhggaaCoPF
import Derived.Test.YtkjgmhamglhggaaCoPY
import Derived.Test.YtkjgmhamglhggaaCoPZ
namespace Go.Proofs.Ytkjgmhamglhggaa
open Go.RowKit
theorem conce_w (s0 : List UInt8) (s1 : List UInt8) (s2 : List UInt8) (A3 : Option Addr) (c3 : Nat) (l3 : List (IntV .u16)) (w : World) (h0 : s0.length = 32) (h1 : s1.length = 32) (h2 : s2.length = 32) (h3 : RowIn (enc1 .u16) 1 w w.heap.size A3 c3 l3) : Calls Try.prog 6 #[.agg (bytesA s0), .agg (bytesA s1), .agg (bytesA s2), .slice A3 l3.length c3] w fun e w' => e = .returned (.bool true) ∧ Below w.heap.size w w' := by
  rw [show bytesA s0 = (encK ⟨s0, h0⟩).toArray from (encK_arr ⟨s0, h0⟩).symm]
  rw [show bytesA s1 = (encK ⟨s1, h1⟩).toArray from (encK_arr ⟨s1, h1⟩).symm]
  rw [show bytesA s2 = (encK ⟨s2, h2⟩).toArray from (encK_arr ⟨s2, h2⟩).symm]
  exact conce_walk pApply_c pFind_c ⟨s0, h0⟩ ⟨s1, h1⟩ ⟨s2, h2⟩ A3 c3 l3 w h3
end Go.Proofs.Ytkjgmhamglhggaa
