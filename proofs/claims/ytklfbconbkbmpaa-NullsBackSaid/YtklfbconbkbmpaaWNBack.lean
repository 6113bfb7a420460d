/- NullsBack's walk, over the project's own functions. Written by genWN.py. -/
import Derived.Test.YtklfbconbkbmpaaLNBack
import Derived.Test.YtklfbconbkbmpaaNulA
namespace Go.Proofs.Ytklfbconbkbmpaa
open Go.RowKit
theorem nback_w (A0 : Option Addr) (c0 : Nat) (l0 : List K32) (A1 : Option Addr) (c1 : Nat) (l1 : List K32) (s2 : List UInt8) (w : World) (h0 : RowIn encK 32 w w.heap.size A0 c0 l0) (h1 : RowIn encK 32 w w.heap.size A1 c1 l1) (h2 : s2.length = 32) : Calls Try.prog 4 #[.slice A0 l0.length c0, .slice A1 l1.length c1, .agg (bytesA s2)] w fun e w' => e = .returned (.bool true) ∧ Below w.heap.size w w' := by
  rw [show bytesA s2 = (encK ⟨s2, h2⟩).toArray from (encK_arr ⟨s2, h2⟩).symm]
  exact nback_walk pSpend_n pUndo_n pFree_n A0 A1 c0 c1 l0 l1 ⟨s2, h2⟩ w h0 h1
end Go.Proofs.Ytklfbconbkbmpaa
