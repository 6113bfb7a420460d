/- The reference's Double and Pair. -/
import Derived.Test.YtgcopgnkfokphaaDoorRefS
import Derived.Test.YtgcopgnkfokphaaDoorRefA
import Derived.Test.YtgcopgnkfokphaaDoorShaG
import Derived.Test.YtgcopgnkfokphaaDoorGenA
import Derived.Deep.RegionHeld3
import Derived.StillTailTactics
namespace Go.Proofs.YtgcopgnkfokphaaDoor
open Go.RowKit
theorem mkL_size (l : List UInt8) : (⟨l.toArray⟩ : ByteArray).size = l.length := by simp [ByteArray.size]
theorem refDouble_any (s : ByteArray) (hs : s.size ≤ 1000000) (w : World) :
    Calls Tryd.prog 17 #[.string s] w fun e w' => e = .returned (.agg (bytesA (dblL s.data.toList))) ∧ Below w.heap.size w w' := by
  go_enter Tryd.func17, Tryd.ntmps17
  go_wp2_with fail
  have B0 : Below w.heap.size w (w.alloc (.cells (bytesA (List.replicate 32 0)) 26)) := (Below.refl _ _).alloc (Nat.le_refl _) _
  refine (refSum_any s hs _).mono ?_
  rintro e w1 ⟨rfl, b1⟩
  have KR := Lib.hid (below_blk b1 (Blk.new w 26 (bytesA (List.replicate 32 0))) (by simp))
  have B1 := B0.trans (b1.mono (by simp))
  clear b1 B0
  go_wp2_with fail
  refine (srefBytes_any _ (sumL_len _) _).mono ?_
  rintro e w2 ⟨rfl, b2⟩
  have B2 := B1.trans (b2.mono B1.size)
  replace KR := Lib.hid (below_blk b2 KR.out KR.out.lt)
  clear b2 B1
  obtain ⟨q, hq⟩ : ∃ q : ByteArray, (⟨(sumL s.data.toList).toArray⟩ : ByteArray) = q := ⟨_, rfl⟩
  rw [hq]
  have hql : q.data.toList = sumL s.data.toList := by rw [← hq]
  have hqs : q.size ≤ 1000000 := by rw [← hq, mkL_size, sumL_len]; omega
  have HQ := Lib.hid hql
  clear hq hql
  go_wp2_with fail
  refine (refSum_any q hqs _).mono ?_
  rintro e w3 ⟨rfl, b3⟩
  have B3 := B2.trans (b3.mono B2.size)
  replace KR := Lib.hid (below_blk b3 KR.out KR.out.lt)
  rw [HQ.out, show sumL (sumL s.data.toList) = dblL s.data.toList from rfl]
  have HLN := Lib.hid (show (dblL s.data.toList).length = 32 from sumL_len _)
  clear b3 B2
  go_wp2_with ((with_reducible refine at_store 2 6 ?_); refine wpList_store_arr rfl 26 (.tmp 2) (.tmp 6) rfl rfl w.heap.size (bytesA (dblL s.data.toList)) rfl rfl 26 _ KR.out (by rw [bytesA_size, HLN.out]; kernel_rfl) (by rw [bytesA_size, bytesA_size, HLN.out]; simp) (bytesA_one _) ?_; intro w8 o8 b8)
  exact bodyPost_ret (results_cell_row rfl _ _ w.heap.size 26 _ (0, 0) _ rfl b8 Tryd.underlying26 rfl (by rw [bytesA_size, HLN.out]; kernel_rfl)) rfl ⟨rfl, B3.trans (o8.below (by simp))⟩
theorem keep_some {w w' : World} {g : Nat} {t : TypeId} (hb : Below w.heap.size w w') (h : ∃ cs : Array Value, cs.size = 32 ∧ Blk w g t cs) : ∃ cs : Array Value, cs.size = 32 ∧ Blk w' g t cs := by
  obtain ⟨cs, h1, h2⟩ := h
  exact ⟨cs, h1, below_blk hb h2 h2.lt⟩
end Go.Proofs.YtgcopgnkfokphaaDoor
