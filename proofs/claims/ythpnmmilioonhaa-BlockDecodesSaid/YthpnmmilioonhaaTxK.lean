/- tx.Coinbase, and the document's. Written by genCoin.py. -/
import Derived.Test.YthpnmmilioonhaaTxW
namespace Go.Proofs.Ythpnmmilioonhaa
open Go.RowKit
def coinF (T : TxV) : Bool := match T.ins with
  | [p] => decide (p.1 = zeroKey)
  | _ => false
theorem coinF_no (T : TxV) (h : T.ins.length ≠ 1) : coinF T = false := by
  unfold coinF
  split
  · rename_i p hp; rw [hp] at h; simp at h
  · rfl
theorem coinF_one (T : TxV) (h : T.ins.length = 1) : coinF T = decide ((T.ins[0]'(by omega)).1 = zeroKey) := by
  obtain ⟨q, hq⟩ := List.length_eq_one_iff.1 h
  simp [coinF, hq]
theorem coin_any (a : TxA) (w : World) (h : a.In w w.heap.size) :
    Calls Try.prog 47 #[.agg a.cells.toArray] w fun e w' => e = .returned (.bool (coinF a.T)) ∧ Below w.heap.size w w' := by
  have hb : RowC (w.alloc (.cells a.cells.toArray 44)) w.heap.size 0 a.cells := RowC.of_blk (Blk.new _ _ _)
  have c1 := TxA.c1 hb
  clear hb
  by_cases h1 : a.T.ins.length = 1
  · have hB : Below w.heap.size w (w.alloc (.cells a.cells.toArray 44)) := (Below.refl _ _).alloc (Nat.le_refl _) _
    obtain ⟨g, o, hA, hg, hc⟩ := (RowIn.below h.ins hB).at (encKI_len _) (i := 0) (by omega)
    rw [hA] at c1
    clear hA
    obtain ⟨p, hp⟩ : ∃ p, a.T.ins[0] = p := ⟨_, rfl⟩
    rw [hp] at hc
    have hcf : coinF a.T = decide (p.1 = zeroKey) := by rw [coinF_one _ h1, hp]
    rw [hcf]
    have hk : RowC (w.alloc (.cells a.cells.toArray 44)) g o (encK p.1) := by simpa using hc.ki_key
    have HK := Lib.hid hk
    have hd : (a.T.ins.length == 1) = true := by simpa using h1
    rw [h1] at c1
    clear hc hp hcf hk h1 hd h hB
    go_enter Try.func47, Try.ntmps47
    go_wp2_with (first
      | ((with_reducible refine at_loadg 11 ?_); refine tyKy.wpList_load (by rfl) (.tmp 11) rfl g o rfl p.1 HK.out ?_)
      | ((with_reducible refine at_eqlg 12 13 ?_); refine wpList_eql_rowg (by rfl) 24 24 (.tmp 12) (.tmp 13) rfl (encK p.1).toArray (encK zeroKey).toArray rfl (congrArg Value.agg lit32k) (by kernel_rfl) (decide (p.1 = zeroKey)) (fun V => eqKy_run _ _ V) ?_; simp only [Act.put, List.setIfInBounds_toArray, List.set_cons_succ, List.set_cons_zero]))
    go_ret
    exact ⟨rfl, (Below.refl _ _).alloc (Nat.le_refl _) _⟩
  · rw [coinF_no _ h1]
    have hd : ((a.T.ins.length : Int) == 1) = false := beq_eq_false_iff_ne.mpr (by omega)
    clear h1 h
    go_enter Try.func47, Try.ntmps47
    go_wp2
    go_ret
    exact ⟨rfl, (Below.refl _ _).alloc (Nat.le_refl _) _⟩
end Go.Proofs.Ythpnmmilioonhaa
