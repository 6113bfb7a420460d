/- NullsTells's walk, over the project's own functions. Written by genWN.py. -/
import Derived.Test.YtklfbconbkbmpaaLNTells
import Derived.Test.YtklfbconbkbmpaaNulA
namespace Go.Proofs.Ytklfbconbkbmpaa
open Go.RowKit
theorem ntells_w (A0 : Option Addr) (c0 : Nat) (l0 : List K32) (A1 : Option Addr) (c1 : Nat) (l1 : List K32) (w : World) (h0 : RowIn encK 32 w w.heap.size A0 c0 l0) (h1 : RowIn encK 32 w w.heap.size A1 c1 l1) : Calls Try.prog 3 #[.slice A0 l0.length c0, .slice A1 l1.length c1] w fun e w' => e = .returned (.bool true) ∧ Below w.heap.size w w' := by
  exact ntells_walk pSpend_n pUndo_n pFree_n A0 A1 c0 c1 l0 l1 w h0 h1
end Go.Proofs.Ytklfbconbkbmpaa
