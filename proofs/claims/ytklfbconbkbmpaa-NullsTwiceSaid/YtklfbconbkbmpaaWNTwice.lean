/- NullsTwice's walk, over the project's own functions. Written by genWN.py. -/
import Derived.Test.YtklfbconbkbmpaaLNTwice
import Derived.Test.YtklfbconbkbmpaaNulA
namespace Go.Proofs.Ytklfbconbkbmpaa
open Go.RowKit
theorem ntwice_w (A0 : Option Addr) (c0 : Nat) (l0 : List K32) (A1 : Option Addr) (c1 : Nat) (l1 : List K32) (n2 : Int) (w : World) (h0 : RowIn encK 32 w w.heap.size A0 c0 l0) (h1 : RowIn encK 32 w w.heap.size A1 c1 l1) (h2 : (Lit.int .u8 n2).wf = true) : Calls Try.prog 5 #[.slice A0 l0.length c0, .slice A1 l1.length c1, .int .u8 n2] w fun e w' => e = .returned (.bool true) ∧ Below w.heap.size w w' := by
  exact ntwice_walk pSpend_n pUndo_n pFree_n A0 A1 c0 c1 l0 l1 n2 w h0 h1 h2
end Go.Proofs.Ytklfbconbkbmpaa
