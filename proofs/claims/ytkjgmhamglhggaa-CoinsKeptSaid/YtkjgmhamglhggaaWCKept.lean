/- CoinsKept's walk, over the project's own functions. Written by genWC.py. -/
import Derived.Test.YtkjgmhamglhggaaLCoKept
import Derived.Test.YtkjgmhamglhggaaCoPF
import Derived.Test.YtkjgmhamglhggaaCoPY
import Derived.Test.YtkjgmhamglhggaaCoPZ
namespace Go.Proofs.Ytkjgmhamglhggaa
open Go.RowKit
theorem ckept_w (A0 : Option Addr) (c0 : Nat) (l0 : List TxA) (A1 : Option Addr) (c1 : Nat) (l1 : List K32) (a2 : TxA) (s3 : List UInt8) (p4 : K32 × IntV .u32) (w : World) (h0 : TxsC w w.heap.size A0 c0 l0) (h1 : RowIn encK 32 w w.heap.size A1 c1 l1) (h2 : a2.In w w.heap.size) (h3 : s3.length = 32) : Calls Try.prog 8 #[.slice A0 l0.length c0, .slice A1 l1.length c1, .agg a2.cells.toArray, .agg (bytesA s3), .agg (encKI .u32 p4).toArray] w fun e w' => e = .returned (.bool true) ∧ Below w.heap.size w w' := by
  rw [show bytesA s3 = (encK ⟨s3, h3⟩).toArray from (encK_arr ⟨s3, h3⟩).symm]
  exact ckept_walk pApply_c pFind_c A0 A1 c0 c1 l0 l1 a2 ⟨s3, h3⟩ p4 w h0 h1 h2
end Go.Proofs.Ytkjgmhamglhggaa
