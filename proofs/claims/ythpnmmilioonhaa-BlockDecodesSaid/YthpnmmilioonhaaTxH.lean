/- What the statements of tx begin by: heavy, shown; tx.Coinbase. -/
import Derived.Test.YthpnmmilioonhaaTxE
import Derived.Test.YthpnmmilioonhaaGenA
namespace Go.Proofs.Ythpnmmilioonhaa
open Go.RowKit
def heavyF (T : TxV) : Bool := decide (60 < T.ins.length ∨ 60 < T.outs.length ∨ 60 < T.nulls.length ∨ 60 < T.notes.length)
section
variable {T : TxV} {Ai Ao An At : Option Addr} {ci co cn ct : Nat}
def oneTx : TxV := ⟨toU32 1, [], [], zeroKey, [], [], toI64 0⟩
theorem encF_one : encF oneTx = ([1, 0, 0, 0, 0, 0, 0, 0, 0, 0, 0, 0, 0, 0, 0, 0], 0) := by decide +kernel
theorem enc_one (v : Value) (hv : v = .agg (txCells oneTx none 0 none 0 none 0 none 0).toArray) (w : World) :
    Calls Try.prog 45 #[v] w fun e w' => e = .returned (encV ([1, 0, 0, 0, 0, 0, 0, 0, 0, 0, 0, 0, 0, 0, 0, 0], 0)) ∧ Below w.heap.size w w' := by
  subst hv
  rw [← encF_one]
  exact enc_any w ⟨RowIn.nil (Nat.zero_le _), RowIn.nil (Nat.zero_le _), RowIn.nil (Nat.zero_le _), RowIn.nil (Nat.zero_le _)⟩
end
end Go.Proofs.Ythpnmmilioonhaa
