/- The walks of layer 11's laws; the law's heavy and shown. Written by genLCh.py. -/
import Derived.Test.YtimhophelecmjaaChkC
namespace Go.Proofs.Ytimhophelecmjaa
open Go.RowKit
section
end
theorem ch_few {T : TxV} (h : heavyF T = false) : T.ins.length ≤ 60 ∧ T.outs.length ≤ 60 ∧ T.nulls.length ≤ 60 ∧ T.notes.length ≤ 60 := by
  unfold heavyF at h
  have := of_decide_eq_false h
  omega
theorem ch_some {T : TxV} (h : heavyF T = false) : Some120 T := by
  have := ch_few h
  exact ⟨by omega, by omega, by omega, by omega⟩
theorem wf_i32 (z : IntV .i32) : -2147483648 ≤ z.1 ∧ z.1 ≤ 2147483647 := by
  have := z.2
  simp [Lit.wf, IntKind.min, IntKind.max, IntKind.signed, IntKind.bits] at this
  omega
def chTxZ : TxA := ⟨txZero, none, 0, none, 0, none, 0, none, 0⟩
theorem ch_shown : checkF txZero false = 110 := checkF_none (by decide +kernel) (by decide +kernel)
end Go.Proofs.Ytimhophelecmjaa
