/- TxSizes: a transaction has as many bytes as its things come to: the statement's walk. -/
import Derived.Test.YtgcopgnkfokphaaTxW
namespace Go.Proofs.Ytgcopgnkfokphaa
open Go.RowKit
set_option maxRecDepth 20000 in
theorem txsizes_walk (a : TxA) (w : World) (h : a.In w w.heap.size) :
    Calls Try.prog 6 #[.agg a.cells.toArray] w fun e w' => e = .returned (.bool true) ∧ Below w.heap.size w w' := by
  have HB := Lib.hid (show RowC (w.alloc (.cells a.cells.toArray 30)) w.heap.size 0 a.cells from RowC.of_blk (Blk.new _ _ _))
  have HIn := Lib.hid h
  clear h
  by_cases hh : heavyF a.T = true
  · have hH := Lib.hid hh
    clear hh
    go_enter Try.func6, Try.ntmps6
    go_wp2_with ((with_reducible refine at_load 1 ?_); refine tyTx.wpList_load rfl (.tmp 1) rfl w.heap.size 0 rfl a HB.out ?_)
    refine (heavyA_any a _).mono ?_
    rintro e w1 ⟨rfl, b1⟩
    rw [hH.out]
    go_wp2_with fail
    refine (shown_any _).mono ?_
    rintro e w2 ⟨rfl, b2⟩
    have B2 := ((Below.refl w.heap.size w).alloc (Nat.le_refl _) _).trans ((b1.mono (by simp)).trans (b2.mono (by have := b1.size; simp at this; omega)))
    go_wp2
    go_ret
    exact ⟨rfl, B2⟩
  have hH := Lib.hid (show heavyF a.T = false by simpa using hh)
  clear hh
  go_enter Try.func6, Try.ntmps6
  go_wp2_with ((with_reducible refine at_load 1 ?_); refine tyTx.wpList_load rfl (.tmp 1) rfl w.heap.size 0 rfl a HB.out ?_)
  refine (heavyA_any a _).mono ?_
  rintro e w1 ⟨rfl, b1⟩
  rw [hH.out]
  go_wp2_with fail
  refine (shown_any _).mono ?_
  rintro e w2 ⟨rfl, b2⟩
  have z1 : w.heap.size < w1.heap.size := by have := b1.size; simp at this; omega
  have B2 := ((Below.refl w.heap.size w).alloc (Nat.le_refl _) (.cells a.cells.toArray 30)).trans ((b1.mono (by simp)).trans (b2.mono (Nat.le_of_lt z1)))
  have HR : RowC w2 w.heap.size 0 a.cells := (HB.out.below b1 (by simp)).below b2 z1
  have HI := HIn.out.on B2 (Nat.le_refl _)
  clear HB HIn b1 b2 z1
  have z2 := B2.size
  have lt2 : w.heap.size < w2.heap.size := HR.lt (by rw [TxA.len]; omega)
  have HR := Lib.hid HR
  have HI := Lib.hid HI
  have HB2 := Lib.hid B2
  clear B2
  go_wp2_with ((with_reducible refine at_load 1 ?_); refine tyTx.wpList_load rfl (.tmp 1) rfl w.heap.size 0 rfl a HR.out ?_)
  refine (encA_any a _ HI.out).mono ?_
  rintro e w3 ⟨rfl, b3⟩
  have HR3 := Lib.hid (HR.out.below b3 lt2)
  have HB3 := Lib.hid (HB2.out.trans (b3.mono z2))
  clear HR HI HB2 b3
  rcases encF_cases a.T with ⟨hok, he⟩ | he | he
  · rw [he]
    have hs := txB_len a.T hok
    have HS := Lib.hid hs
    have o1 := hok.1
    have o2 := hok.2.1
    have o3 := hok.2.2.1
    have o4 := hok.2.2.2.1
    clear hs hok he
    obtain ⟨S, hS⟩ : ∃ S, txB a.T = S := ⟨_, rfl⟩
    rw [hS] at HS ⊢
    clear hS
    have c1 := TxA.c1 HR3.out
    have c2 := TxA.c2 HR3.out
    have c4 := TxA.c4 HR3.out
    have c5 := TxA.c5 HR3.out
    clear HR3
    unfold encV
    by_cases h0 : 0 < a.T.nulls.length
    · have hd : decide (0 < a.T.nulls.length) = true := by simpa using h0
      rw [if_pos h0] at HS
      clear h0
      go_wp2_with fail
      go_ret
      refine ⟨?_, HB3.out⟩
      have hE : ∀ x y : Int, x = y → Ending.returned (Value.bool (x == y)) = .returned (.bool true) := fun x y h => by rw [beq_iff_eq.mpr h]
      have := HS.out
      exact hE _ _ (by omega)
    · have hd : decide (0 < a.T.nulls.length) = false := by simpa using h0
      rw [if_neg h0] at HS
      clear h0
      go_wp2_with fail
      go_ret
      refine ⟨?_, HB3.out⟩
      have hE : ∀ x y : Int, x = y → Ending.returned (Value.bool (x == y)) = .returned (.bool true) := fun x y h => by rw [beq_iff_eq.mpr h]
      have := HS.out
      exact hE _ _ (by omega)
  · rw [he]
    unfold encV
    go_wp2
    go_ret
    exact ⟨rfl, HB3.out⟩
  · rw [he]
    unfold encV
    go_wp2
    go_ret
    exact ⟨rfl, HB3.out⟩
end Go.Proofs.Ytgcopgnkfokphaa
