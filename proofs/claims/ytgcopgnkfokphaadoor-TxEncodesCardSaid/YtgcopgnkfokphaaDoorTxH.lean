/- What the statements of tx begin by: heavy, shown; tx.Coinbase. -/
import Derived.Test.YtgcopgnkfokphaaDoorTxE
import Derived.Test.YtgcopgnkfokphaaDoorGenA
namespace Go.Proofs.YtgcopgnkfokphaaDoor
open Go.RowKit
def heavyF (T : TxV) : Bool := decide (60 < T.ins.length ∨ 60 < T.outs.length ∨ 60 < T.nulls.length ∨ 60 < T.notes.length)
section
variable {T : TxV} {Ai Ao An At : Option Addr} {ci co cn ct : Nat}
theorem heavy_any (w : World) :
    Calls Tryd.prog 6 #[.agg (txCells T Ai ci Ao co An cn At ct).toArray] w fun e w' => e = .returned (.bool (heavyF T)) ∧ Below w.heap.size w w' := by
  have hb : RowC (w.alloc (.cells (txCells T Ai ci Ao co An cn At ct).toArray 29)) w.heap.size 0 (txCells T Ai ci Ao co An cn At ct) := RowC.of_blk (Blk.new _ _ _)
  have c1 := tx_ins hb
  have c2 := tx_outs hb
  have c4 := tx_nulls hb
  have c5 := tx_notes hb
  clear hb
  simp only [Nat.zero_add] at c1 c2 c4 c5
  have hx : ∀ b : Bool, (b = true ↔ (60 < (T.ins.length : Int) ∨ 60 < (T.outs.length : Int) ∨ 60 < (T.nulls.length : Int) ∨ 60 < (T.notes.length : Int))) → Ending.returned (Value.bool b) = .returned (.bool (heavyF T)) := fun b hb => by
    congr 2
    rw [Bool.eq_iff_iff, hb]
    unfold heavyF
    simp only [decide_eq_true_iff]
    omega
  have HX := Lib.hid hx
  clear hx
  go_enter Tryd.func6, Tryd.ntmps6
  go_wp2
  all_goals
    go_ret
    refine ⟨HX.out _ ?_, (Below.refl _ _).alloc (Nat.le_refl _) _⟩
    simp
    omega
def oneTx : TxV := ⟨toU32 1, [], [], zeroKey, [], [], toI64 0⟩
theorem encF_one : encF oneTx = ([1, 0, 0, 0, 0, 0, 0, 0, 0, 0, 0, 0, 0, 0, 0, 0], 0) := by decide +kernel
theorem enc_one (v : Value) (hv : v = .agg (txCells oneTx none 0 none 0 none 0 none 0).toArray) (w : World) :
    Calls Tryd.prog 8 #[v] w fun e w' => e = .returned (encV ([1, 0, 0, 0, 0, 0, 0, 0, 0, 0, 0, 0, 0, 0, 0, 0], 0)) ∧ Below w.heap.size w w' := by
  subst hv
  rw [← encF_one]
  exact enc_any w ⟨RowIn.nil (Nat.zero_le _), RowIn.nil (Nat.zero_le _), RowIn.nil (Nat.zero_le _), RowIn.nil (Nat.zero_le _)⟩
theorem xshown_any (w : World) :
    Calls Tryd.prog 7 #[] w fun e w' => e = .returned (.bool true) ∧ Below w.heap.size w w' := by
  go_enter Tryd.func7, Tryd.ntmps7
  go_wp2_with fail
  refine (enc_one _ (by kernel_rfl) _).mono ?_
  rintro e w1 ⟨rfl, b1⟩
  unfold encV
  go_wp2
  go_ret
  exact ⟨rfl, b1⟩
end
end Go.Proofs.YtgcopgnkfokphaaDoor
