/- OracleTells's walk, over the project's own functions. Written by genWV.py. -/
import Derived.Test.YthepiegaoekccaaLVd
import Derived.Test.YthepiegaoekccaaVdC
namespace Go.Proofs.Ythepiegaoekccaa
open Go.RowKit
theorem vdTells_w (A0 : Option Addr) (c0 : Nat) (l0 : List VdV) (a1 : TxA) (s2 : List UInt8) (n3 : Int) (n4 : Int) (w : World) (h0 : RowIn encVd 34 w w.heap.size A0 c0 l0) (h1 : a1.In w w.heap.size) (h2 : s2.length = 32) (h3 : (Lit.int .i64 n3).wf = true) (h4 : (Lit.int .u8 n4).wf = true) : Calls Try.prog 3 #[.slice A0 l0.length c0, .agg a1.cells.toArray, .agg (bytesA s2), .int .i64 n3, .int .u8 n4] w fun e w' => e = .returned (.bool true) ∧ Below w.heap.size w w' := by
  rw [show bytesA s2 = (encK ⟨s2, h2⟩).toArray from (encK_arr ⟨s2, h2⟩).symm]
  exact vdTells_walk pLook_v pAll_v pGood_v pItems_v A0 c0 l0 a1 ⟨s2, h2⟩ ⟨n3, h3⟩ ⟨n4, h4⟩ w h0 h1
end Go.Proofs.Ythepiegaoekccaa
