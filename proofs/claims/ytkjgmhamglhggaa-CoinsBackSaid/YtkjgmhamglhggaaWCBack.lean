/- CoinsBack's walk, over the project's own functions. Written by genWC.py. -/
import Derived.Test.YtkjgmhamglhggaaLCoBack
import Derived.Test.YtkjgmhamglhggaaCoPF
import Derived.Test.YtkjgmhamglhggaaCoPY
import Derived.Test.YtkjgmhamglhggaaCoPZ
namespace Go.Proofs.Ytkjgmhamglhggaa
open Go.RowKit
theorem coback_w (A0 : Option Addr) (c0 : Nat) (l0 : List TxA) (A1 : Option Addr) (c1 : Nat) (l1 : List K32) (A2 : Option Addr) (c2 : Nat) (l2 : List (IntV .u8)) (w : World) (h0 : TxsC w w.heap.size A0 c0 l0) (h1 : RowIn encK 32 w w.heap.size A1 c1 l1) (h2 : RowIn (enc1 .u8) 1 w w.heap.size A2 c2 l2) : Calls Try.prog 4 #[.slice A0 l0.length c0, .slice A1 l1.length c1, .slice A2 l2.length c2] w fun e w' => e = .returned (.bool true) ∧ Below w.heap.size w w' := by
  exact coback_walk pApply_c pUndo_c pLess_c A0 A1 A2 c0 c1 c2 l0 l1 l2 w h0 h1 h2
end Go.Proofs.Ytkjgmhamglhggaa
