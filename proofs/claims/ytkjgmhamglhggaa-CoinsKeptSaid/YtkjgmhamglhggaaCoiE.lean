/- The document's order of points. -/
import Derived.Test.YtkjgmhamglhggaaCoiD
import Derived.Test.YtkjgmhamglhggaaKeyR
namespace Go.Proofs.Ytkjgmhamglhggaa
open Go.RowKit
def ltP (a b : PtV) : Bool := ltK a.1 b.1 || (decide (a.1 = b.1) && decide (a.2.1 < b.2.1))
theorem ordP : OrdC ltP where
  irrefl a := by unfold ltP; rw [ltK_irrefl]; simp
  trans {a b c} h1 h2 := by
    unfold ltP at *
    rw [Bool.or_eq_true, Bool.and_eq_true, decide_eq_true_iff, decide_eq_true_iff] at *
    rcases h1 with h1 | ⟨e1, l1⟩
    · rcases h2 with h2 | ⟨e2, l2⟩
      · exact .inl (ltK_trans h1 h2)
      · exact .inl (e2 ▸ h1)
    · rcases h2 with h2 | ⟨e2, l2⟩
      · exact .inl (e1 ▸ h2)
      · exact .inr ⟨e1.trans e2, by omega⟩
  tri {a b} h1 h2 := by
    unfold ltP at *
    rw [Bool.or_eq_false_iff, Bool.and_eq_false_iff, decide_eq_false_iff_not, decide_eq_false_iff_not] at *
    have e : a.1 = b.1 := ltK_tri h1.1 h2.1
    have h3 : ¬ a.2.1 < b.2.1 := by
      rcases h1.2 with h | h
      · exact absurd e h
      · exact h
    have h4 : ¬ b.2.1 < a.2.1 := by
      rcases h2.2 with h | h
      · exact absurd e.symm h
      · exact h
    exact Prod.ext e (Subtype.ext (by omega))
set_option maxRecDepth 20000 in
set_option maxHeartbeats 2000000 in
theorem rLess_r (a b : PtV) (w : World) :
    Calls Try.prog 20 #[.agg (encKI .u32 a).toArray, .agg (encKI .u32 b).toArray] w fun e w' => e = .returned (.bool (ltP a b)) ∧ Below w.heap.size w w' := by
  obtain ⟨r, hr⟩ : ∃ r, ltP a b = r := ⟨_, rfl⟩
  rw [hr]
  unfold ltP at hr
  have B0 := Lib.hid (show Below w.heap.size w ((w.alloc (.cells (encKI .u32 a).toArray 32)).alloc (.cells (encKI .u32 b).toArray 32)) from ((Below.refl w.heap.size w).alloc (Nat.le_refl _) _).alloc (by simp) _)
  have K0 := Lib.hid (show Blk ((w.alloc (.cells (encKI .u32 a).toArray 32)).alloc (.cells (encKI .u32 b).toArray 32)) w.heap.size 32 (encKI .u32 a).toArray from (Blk.new w 32 (encKI .u32 a).toArray).alloc _)
  have K1 := Lib.hid (show Blk ((w.alloc (.cells (encKI .u32 a).toArray 32)).alloc (.cells (encKI .u32 b).toArray 32)) (w.heap.size + 1) 32 (encKI .u32 b).toArray from blk_new (g := w.heap.size + 1) 32 (encKI .u32 b).toArray (by simp))
  obtain ⟨q0, hq0⟩ : ∃ q, ltK a.1 b.1 = q := ⟨_, rfl⟩
  obtain ⟨q1, hq1⟩ : ∃ q, decide (a.1 = b.1) = q := ⟨_, rfl⟩
  obtain ⟨q2, hq2⟩ : ∃ q, decide (a.2.1 < b.2.1) = q := ⟨_, rfl⟩
  have HC := Lib.hid (show ∀ W, Calls Try.prog 43 #[.agg (encK a.1).toArray, .agg (encK b.1).toArray] W fun e w' => e = .returned (.bool q0) ∧ Below W.heap.size W w' from fun W => by
    have := refLess_any a.1 b.1 W
    rw [← encK_arr, ← encK_arr, hq0] at this
    exact this)
  have HE := Lib.hid hq1
  rw [hq0, hq1, hq2] at hr
  have HR := Lib.hid hr
  clear hr hq0 hq1
  go_enter Try.func20, Try.ntmps20
  go_wp2_with (first
    | ((with_reducible refine at_load 5 ?_); refine tyKc.wpList_load rfl (.tmp 5) rfl w.heap.size 0 rfl a.1 (RowC.ki_key (RowC.of_blk K0.out)) ?_)
    | ((with_reducible refine at_load 7 ?_); refine tyKc.wpList_load rfl (.tmp 7) rfl (w.heap.size + 1) 0 rfl b.1 (RowC.ki_key (RowC.of_blk K1.out)) ?_))
  refine (HC.out _).mono ?_
  rintro e w1 ⟨rfl, b1⟩
  have B1 := Lib.hid (B0.out.trans (b1.mono B0.out.size))
  have L0 := Lib.hid (below_blk b1 K0.out K0.out.lt)
  have L1 := Lib.hid (below_blk b1 K1.out K1.out.lt)
  have c0 : w1.cell? ⟨w.heap.size, 32, none⟩ = some (.int .u32 a.2.1) := by have := RowC.ki_int (RowC.of_blk L0.out); simpa using this
  have c1 : w1.cell? ⟨w.heap.size + 1, 32, none⟩ = some (.int .u32 b.2.1) := by have := RowC.ki_int (RowC.of_blk L1.out); simpa using this
  clear b1 B0 K0 K1 HC
  cases q0 with
  | true =>
    go_wp2_with fail
    go_ret
    exact ⟨by rw [← HR.out]; rfl, B1.out⟩
  | false =>
    cases q1 with
    | false =>
      go_wp2_with (first
        | ((with_reducible refine at_loadg 11 ?_); refine tyKc.wpList_load (by rfl) (.tmp 11) rfl w.heap.size 0 rfl a.1 (RowC.ki_key (RowC.of_blk L0.out)) ?_)
        | ((with_reducible refine at_loadg 13 ?_); refine tyKc.wpList_load (by rfl) (.tmp 13) rfl (w.heap.size + 1) 0 rfl b.1 (RowC.ki_key (RowC.of_blk L1.out)) ?_)
        | ((with_reducible refine at_eqlg 12 14 ?_); refine wpList_eql_rowg (by rfl) 27 27 (.tmp 12) (.tmp 14) rfl (encK a.1).toArray (encK b.1).toArray rfl rfl (by kernel_rfl) false (fun V => (eqKy_run _ _ V).trans (by rw [HE.out])) ?_; simp only [Act.put, List.setIfInBounds_toArray, List.set_cons_succ, List.set_cons_zero]))
      go_ret
      exact ⟨by rw [← HR.out]; rfl, B1.out⟩
    | true =>
      go_wp2_with (first
        | ((with_reducible refine at_loadg 11 ?_); refine tyKc.wpList_load (by rfl) (.tmp 11) rfl w.heap.size 0 rfl a.1 (RowC.ki_key (RowC.of_blk L0.out)) ?_)
        | ((with_reducible refine at_loadg 13 ?_); refine tyKc.wpList_load (by rfl) (.tmp 13) rfl (w.heap.size + 1) 0 rfl b.1 (RowC.ki_key (RowC.of_blk L1.out)) ?_)
        | ((with_reducible refine at_eqlg 12 14 ?_); refine wpList_eql_rowg (by rfl) 27 27 (.tmp 12) (.tmp 14) rfl (encK a.1).toArray (encK b.1).toArray rfl rfl (by kernel_rfl) true (fun V => (eqKy_run _ _ V).trans (by rw [HE.out])) ?_; simp only [Act.put, List.setIfInBounds_toArray, List.set_cons_succ, List.set_cons_zero]))
      go_ret
      exact ⟨by rw [← HR.out]; simp, B1.out⟩
end Go.Proofs.Ytkjgmhamglhggaa
