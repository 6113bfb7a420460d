/- NullsEmpty's walk, over the project's own functions. Written by genWN.py. -/
import Derived.Test.YtklfbconbkbmpaaLNEmpty
import Derived.Test.YtklfbconbkbmpaaNulA
namespace Go.Proofs.Ytklfbconbkbmpaa
open Go.RowKit
theorem nempty_w (A0 : Option Addr) (c0 : Nat) (l0 : List K32) (s1 : List UInt8) (w : World) (h0 : RowIn encK 32 w w.heap.size A0 c0 l0) (h1 : s1.length = 32) : Calls Try.prog 6 #[.slice A0 l0.length c0, .agg (bytesA s1)] w fun e w' => e = .returned (.bool true) ∧ Below w.heap.size w w' := by
  rw [show bytesA s1 = (encK ⟨s1, h1⟩).toArray from (encK_arr ⟨s1, h1⟩).symm]
  exact nempty_walk pSpend_n pUndo_n pFree_n A0 c0 l0 ⟨s1, h1⟩ w h0
end Go.Proofs.Ytklfbconbkbmpaa
