/- CostFair's walk, over the project's own functions. Written by genWCo14.py. -/
import Derived.Test.YtpoejbfcioijhaaLCoG
import Derived.Test.YtpoejbfcioijhaaCosQ
namespace Go.Proofs.Ytpoejbfcioijhaa
open Go.RowKit
theorem cosFair_w (A0 : Option Addr) (c0 : Nat) (l0 : List (IntV .u8)) (n1 : Int) (w : World) (h0 : RowIn (enc1 .u8) 1 w w.heap.size A0 c0 l0) (h1 : (Lit.int .u64 n1).wf = true) : Calls Try.prog 4 #[.slice A0 l0.length c0, .int .u64 n1] w fun e w' => e = .returned (.bool true) ∧ Below w.heap.size w w' := by
  exact cosFair_walk pPick_c pSum_c pCost_c A0 c0 l0 ⟨n1, h1⟩ w h0
end Go.Proofs.Ytpoejbfcioijhaa
