/- Layer 12's walks, over the project's own functions. Written by genWE.py. -/
import Derived.Test.YtjfhmnamiipgbaaLExp
import Derived.Test.YtjfhmnamiipgbaaExpB
namespace Go.Proofs.Ytjfhmnamiipgbaa
open Go.RowKit
theorem isU32_wf {z : Int} (h : (Lit.int .u32 z).wf = true) : isU32 z := by
  simp [Lit.wf, IntKind.min, IntKind.max, IntKind.signed, IntKind.bits] at h
  unfold isU32
  omega
theorem isU16_wf {z : Int} (h : (Lit.int .u16 z).wf = true) : 0 ≤ z ∧ z < 65536 := by
  simp [Lit.wf, IntKind.min, IntKind.max, IntKind.signed, IntKind.bits] at h
  omega
theorem etells_w (n0 : Int) (n1 : Int) (w : World) (h0 : (Lit.int .u32 n0).wf = true) (h1 : (Lit.int .u32 n1).wf = true) : Calls Try.prog 3 #[.int .u32 n0, .int .u32 n1] w fun e w' => e = .returned (.bool true) ∧ Below w.heap.size w w' :=
  etells_walk pLeft_e pChk_e pExpd_e pSoon_e n0 n1 w (isU32_wf h0) (isU32_wf h1)
theorem estays_w (n0 : Int) (n1 : Int) (n2 : Int) (w : World) (h0 : (Lit.int .u32 n0).wf = true) (h1 : (Lit.int .u32 n1).wf = true) (h2 : (Lit.int .u32 n2).wf = true) : Calls Try.prog 4 #[.int .u32 n0, .int .u32 n1, .int .u32 n2] w fun e w' => e = .returned (.bool true) ∧ Below w.heap.size w w' :=
  estays_walk pLeft_e pChk_e pExpd_e pSoon_e n0 n1 n2 w (isU32_wf h0) (isU32_wf h1) (isU32_wf h2)
theorem ecounts_w (n0 : Int) (n1 : Int) (w : World) (h0 : (Lit.int .u16 n0).wf = true) (h1 : (Lit.int .u16 n1).wf = true) : Calls Try.prog 5 #[.int .u16 n0, .int .u16 n1] w fun e w' => e = .returned (.bool true) ∧ Below w.heap.size w w' :=
  ecounts_walk pLeft_e pChk_e pExpd_e pSoon_e n0 n1 w (isU16_wf h0) (isU16_wf h1)
theorem enever_w (n0 : Int) (n1 : Int) (w : World) (h0 : (Lit.int .u32 n0).wf = true) (h1 : (Lit.int .u32 n1).wf = true) : Calls Try.prog 6 #[.int .u32 n0, .int .u32 n1] w fun e w' => e = .returned (.bool true) ∧ Below w.heap.size w w' :=
  enever_walk pLeft_e pChk_e pExpd_e pSoon_e n0 n1 w (isU32_wf h0) (isU32_wf h1)
end Go.Proofs.Ytjfhmnamiipgbaa
