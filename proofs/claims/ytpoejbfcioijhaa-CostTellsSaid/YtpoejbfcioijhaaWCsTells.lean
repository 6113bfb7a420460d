/- CostTells's walk, over the project's own functions. Written by genWCo14.py. -/
import Derived.Test.YtpoejbfcioijhaaLCos
import Derived.Test.YtpoejbfcioijhaaCosQ
namespace Go.Proofs.Ytpoejbfcioijhaa
open Go.RowKit
theorem cosTells_w (a0 : TxA) (n1 : Int) (A2 : Option Addr) (c2 : Nat) (l2 : List (IntV .i64)) (n3 : Int) (w : World) (h0 : a0.In w w.heap.size) (h1 : (Lit.int .i64 n1).wf = true) (h2 : RowIn (enc1 .i64) 1 w w.heap.size A2 c2 l2) (h3 : (Lit.int .u64 n3).wf = true) : Calls Try.prog 3 #[.agg a0.cells.toArray, .int .i64 n1, .slice A2 l2.length c2, .int .u64 n3] w fun e w' => e = .returned (.bool true) ∧ Below w.heap.size w w' := by
  exact cosTells_walk pSum_c pPick_c pCost_c pWeight_c a0 n1 A2 c2 l2 ⟨n3, h3⟩ w h0 (by have := wf_i64.1 h1; unfold isI64; omega) h2
end Go.Proofs.Ytpoejbfcioijhaa
