/- OracleItems's walk, over the project's own functions. Written by genWV.py. -/
import Derived.Test.YthepiegaoekccaaLVe
import Derived.Test.YthepiegaoekccaaVdC
namespace Go.Proofs.Ythepiegaoekccaa
open Go.RowKit
theorem vdItems_w (a0 : TxA) (A1 : Option Addr) (c1 : Nat) (l1 : List VdV) (s2 : List UInt8) (n3 : Int) (w : World) (h0 : a0.In w w.heap.size) (z0 : a0.T.ins.length + a0.T.nulls.length + a0.T.notes.length ≤ 4611686018427387904) (h1 : RowIn encVd 34 w w.heap.size A1 c1 l1) (h2 : s2.length = 32) (h3 : (Lit.int .i8 n3).wf = true) : Calls Try.prog 6 #[.agg a0.cells.toArray, .slice A1 l1.length c1, .agg (bytesA s2), .int .i8 n3] w fun e w' => e = .returned (.bool true) ∧ Below w.heap.size w w' := by
  rw [show bytesA s2 = (encK ⟨s2, h2⟩).toArray from (encK_arr ⟨s2, h2⟩).symm]
  exact vdItems_walk pLook_v pAll_v pGood_v pItems_v A1 c1 l1 a0 ⟨s2, h2⟩ ⟨n3, h3⟩ w h1 h0 z0
end Go.Proofs.Ythepiegaoekccaa
