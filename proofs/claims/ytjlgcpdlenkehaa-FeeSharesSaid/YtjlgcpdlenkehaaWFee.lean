/- Layer 13's walks, over the project's own functions. Written by genWF.py. -/
import Derived.Test.YtjlgcpdlenkehaaLFee
import Derived.Test.YtjlgcpdlenkehaaLGrows
import Derived.Test.YtjlgcpdlenkehaaTxTy
import Derived.Test.YtjlgcpdlenkehaaFeeB
namespace Go.Proofs.Ytjlgcpdlenkehaa
open Go.RowKit
theorem isI64_wf {z : Int} (h : (Lit.int .i64 z).wf = true) : isI64 z := by
  simp [Lit.wf, IntKind.min, IntKind.max, IntKind.signed, IntKind.bits] at h
  unfold isI64
  omega
theorem u32_wf {z : Int} (h : (Lit.int .u32 z).wf = true) : 0 ≤ z ∧ z ≤ 4294967295 := by
  simp [Lit.wf, IntKind.min, IntKind.max, IntKind.signed, IntKind.bits] at h
  omega
theorem feeTells_w (a : TxA) (n1 : Int) (w : World) (_ : a.In w w.heap.size) (h1 : (Lit.int .i64 n1).wf = true) : Calls Try.prog 3 #[.agg a.cells.toArray, .int .i64 n1] w fun e w' => e = .returned (.bool true) ∧ Below w.heap.size w w' :=
  feeTells_walk pAct_f pConv_f pUnp_f pWgt_f pPays_f a n1 w (isI64_wf h1)
theorem feeRises_w (a : TxA) (n1 : Int) (n2 : Int) (w : World) (_ : a.In w w.heap.size) (h1 : (Lit.int .i64 n1).wf = true) (h2 : (Lit.int .i64 n2).wf = true) : Calls Try.prog 4 #[.agg a.cells.toArray, .int .i64 n1, .int .i64 n2] w fun e w' => e = .returned (.bool true) ∧ Below w.heap.size w w' :=
  feeRises_walk pAct_f pConv_f pUnp_f pWgt_f pPays_f a n1 n2 w (isI64_wf h1) (isI64_wf h2)
theorem feeUnpaid_w (a : TxA) (n1 : Int) (w : World) (_ : a.In w w.heap.size) (h1 : (Lit.int .u32 n1).wf = true) : Calls Try.prog 6 #[.agg a.cells.toArray, .int .u32 n1] w fun e w' => e = .returned (.bool true) ∧ Below w.heap.size w w' :=
  feeUnpaid_walk pAct_f pConv_f pUnp_f pWgt_f pPays_f a n1 w (u32_wf h1)
theorem feeShares_w (a : TxA) (n1 : Int) (w : World) (_ : a.In w w.heap.size) (h1 : (Lit.int .u32 n1).wf = true) : Calls Try.prog 7 #[.agg a.cells.toArray, .int .u32 n1] w fun e w' => e = .returned (.bool true) ∧ Below w.heap.size w w' :=
  feeShares_walk pAct_f pConv_f pUnp_f pWgt_f pPays_f a n1 w (u32_wf h1)
theorem feeLeast_w (a : TxA)  (w : World) (_ : a.In w w.heap.size)  : Calls Try.prog 8 #[.agg a.cells.toArray] w fun e w' => e = .returned (.bool true) ∧ Below w.heap.size w w' :=
  feeLeast_walk pAct_f pConv_f pUnp_f pWgt_f pPays_f a  w 
theorem feeGrows_w (a : TxA) (s : List UInt8) (w : World) (h : a.In w w.heap.size) (hs : s.length = 32) : Calls Try.prog 5 #[.agg a.cells.toArray, .agg (bytesA s)] w fun e w' => e = .returned (.bool true) ∧ Below w.heap.size w w' := by
  rw [show bytesA s = (encK ⟨s, hs⟩).toArray from (encK_arr ⟨s, hs⟩).symm]
  exact feeGrows_walk pAct_f pConv_f pWgt_f a ⟨s, hs⟩ w h
end Go.Proofs.Ytjlgcpdlenkehaa
