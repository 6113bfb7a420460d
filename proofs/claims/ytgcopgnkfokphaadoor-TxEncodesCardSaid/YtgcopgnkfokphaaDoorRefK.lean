/- The reference's table K. -/
import Derived.Test.YtgcopgnkfokphaaDoorRefQ
import Derived.Test.YtgcopgnkfokphaaDoorGenA
import Derived.Test.YtgcopgnkfokphaaDoorProg
namespace Go.Proofs.YtgcopgnkfokphaaDoor
open Go.RowKit
theorem kU : uarr 64 kF = (kList.map fun x => Value.int .u32 (wv x)).toArray := by
  unfold uarr
  congr 1
set_option maxRecDepth 100000 in
set_option maxHeartbeats 1000000 in
theorem refK_any (w : World) : Calls Tryd.prog 55 #[] w fun e w' => e = .returned (.agg (uarr 64 kF)) ∧ Below w.heap.size w w' := by
  go_enter Tryd.func55, Tryd.ntmps55
  go_wp2_with (refine wpList_store_arr rfl 87 (.tmp 0) (.tmp 1) rfl rfl w.heap.size (uarr 64 kF) rfl (by rw [kU]; kernel_rfl) 87 _ (Blk.new w _ _) (by rw [uarr_size]; kernel_rfl) (by rw [uarr_size]; simp) (uarr_one _ _) ?_; intro w3 o3 b3)
  exact bodyPost_ret (results_cell_row rfl _ _ w.heap.size 87 _ (0, 0) _ rfl b3 Tryd.underlying87 rfl (by rw [uarr_size]; kernel_rfl)) rfl ⟨rfl, ((Below.refl _ _).alloc (Nat.le_refl _) _).trans (o3.below (by simp))⟩
end Go.Proofs.YtgcopgnkfokphaaDoor
