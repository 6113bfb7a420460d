/- The reference's Double and Pair. -/
import Derived.Test.YtdigdihokgiijaaDoorRefS
import Derived.Test.YtdigdihokgiijaaDoorRefA
import Derived.Test.YtdigdihokgiijaaDoorShaG
import Derived.Test.YtdigdihokgiijaaDoorHeld
import Derived.Deep.RegionHeld3
import Derived.StillTailTactics
namespace Go.Proofs.YtdigdihokgiijaaDoor
open Go.RowKit
theorem mkL_size (l : List UInt8) : (⟨l.toArray⟩ : ByteArray).size = l.length := by simp [ByteArray.size]
theorem refDouble_any (s : ByteArray) (hs : s.size ≤ 1000000) (w : World) :
    Calls Tryd.prog 13 #[.string s] w fun e w' => e = .returned (.agg (bytesA (dblL s.data.toList))) ∧ Below w.heap.size w w' := by
  go_enter Tryd.func13, Tryd.ntmps13
  go_wp2_with fail
  have B0 : Below w.heap.size w (w.alloc (.cells (bytesA (List.replicate 32 0)) 23)) := (Below.refl _ _).alloc (Nat.le_refl _) _
  refine (refSum_any s hs _).mono ?_
  rintro e w1 ⟨rfl, b1⟩
  have KR := Lib.hid (below_blk b1 (Blk.new w 23 (bytesA (List.replicate 32 0))) (by simp))
  have B1 := B0.trans (b1.mono (by simp))
  clear b1 B0
  go_wp2_with fail
  refine (refBytes_any _ (sumL_len _) _).mono ?_
  rintro e w2 ⟨rfl, b2⟩
  have B2 := B1.trans (b2.mono B1.size)
  replace KR := Lib.hid (below_blk b2 KR.out KR.out.lt)
  clear b2 B1
  obtain ⟨q, hq⟩ : ∃ q : ByteArray, (⟨(sumL s.data.toList).toArray⟩ : ByteArray) = q := ⟨_, rfl⟩
  rw [hq]
  have hql : q.data.toList = sumL s.data.toList := by rw [← hq]
  have hqs : q.size ≤ 1000000 := by rw [← hq, mkL_size, sumL_len]; omega
  have HQ := Lib.hid hql
  clear hq hql
  go_wp2_with fail
  refine (refSum_any q hqs _).mono ?_
  rintro e w3 ⟨rfl, b3⟩
  have B3 := B2.trans (b3.mono B2.size)
  replace KR := Lib.hid (below_blk b3 KR.out KR.out.lt)
  rw [HQ.out, show sumL (sumL s.data.toList) = dblL s.data.toList from rfl]
  have HLN := Lib.hid (show (dblL s.data.toList).length = 32 from sumL_len _)
  clear b3 B2
  go_wp2_with ((with_reducible refine at_store 2 6 ?_); refine wpList_store_arr rfl 23 (.tmp 2) (.tmp 6) rfl rfl w.heap.size (bytesA (dblL s.data.toList)) rfl rfl 23 _ KR.out (by rw [bytesA_size, HLN.out]; kernel_rfl) (by rw [bytesA_size, bytesA_size, HLN.out]; simp) (bytesA_one _) ?_; intro w8 o8 b8)
  exact bodyPost_ret (results_cell_row rfl _ _ w.heap.size 23 _ (0, 0) _ rfl b8 Tryd.underlying23 rfl (by rw [bytesA_size, HLN.out]; kernel_rfl)) rfl ⟨rfl, B3.trans (o8.below (by simp))⟩
theorem keep_some {w w' : World} {g : Nat} {t : TypeId} (hb : Below w.heap.size w w') (h : ∃ cs : Array Value, cs.size = 32 ∧ Blk w g t cs) : ∃ cs : Array Value, cs.size = 32 ∧ Blk w' g t cs := by
  obtain ⟨cs, h1, h2⟩ := h
  exact ⟨cs, h1, below_blk hb h2 h2.lt⟩
set_option maxHeartbeats 2000000 in
theorem refPair_any (a b : List UInt8) (ha : a.length = 32) (hb : b.length = 32) (w : World) :
    Calls Tryd.prog 15 #[.agg (bytesA a), .agg (bytesA b)] w fun e w' => e = .returned (.agg (bytesA (pairL a b))) ∧ Below w.heap.size w w' := by
  have Ha := Lib.hid ha
  have Hb := Lib.hid hb
  clear ha hb
  go_enter Tryd.func15, Tryd.ntmps15
  go_wp2_with fail
  obtain ⟨W, hW⟩ : ∃ W, ((w.alloc (Obj.cells (bytesA a) 23)).alloc (Obj.cells (bytesA b) 23)).alloc (Obj.cells (bytesA (List.replicate 32 0)) 23) = W := ⟨_, rfl⟩
  have B0 : Below w.heap.size w W := by rw [← hW]; exact (((Below.refl _ _).alloc (Nat.le_refl _) _).alloc (by simp) _).alloc (by simp; omega) _
  have K0 : Blk W w.heap.size 23 (bytesA a) := by rw [← hW]; exact ((Blk.new _ _ _).alloc _).alloc _
  have K1 : Blk W (w.heap.size + 1) 23 (bytesA b) := by rw [← hW]; exact (blk_new _ _ (by simp)).alloc _
  have K2 : Blk W (w.heap.size + 1 + 1) 23 (bytesA (List.replicate 32 0)) := by rw [← hW]; exact blk_new _ _ (by simp)
  have J := Lib.hid (And.intro K0 (And.intro K1 (And.intro K2 B0)))
  clear K0 K1 K2 B0
  change Code.wp _ _ _ _ (((w.alloc (Obj.cells (bytesA a) 23)).alloc (Obj.cells (bytesA b) 23)).alloc (Obj.cells (bytesA (List.replicate 32 0)) 23))
  rw [hW]
  clear hW
  have hadd : ∀ V, (Op.stringOp .add ⟨a.toArray⟩ ⟨b.toArray⟩).run Tryd.prog V = .ok (.string ⟨(a ++ b).toArray⟩) V := fun V => run_string_add_lists V a b (by rw [Ha.out]; decide) (by rw [Hb.out]; decide)
  refine wp_region_held_drew (S := fun w' => Blk w' w.heap.size 23 (bytesA a) ∧ Blk w' (w.heap.size + 1) 23 (bytesA b) ∧ (∃ cs : Array Value, cs.size = 32 ∧ Blk w' (w.heap.size + 1 + 1) 23 cs) ∧ Below w.heap.size w w') (by kernel_rfl) ⟨J.out.1.drew, J.out.2.1.drew, ⟨_, by rw [bytesA_size, List.length_replicate], J.out.2.2.1.drew⟩, J.out.2.2.2.drew⟩ ?_
  clear J
  intro hS0
  refine wpAnyH_take (i := 0) (v := .agg (bytesA a)) rfl (by kernel_rfl) (by kernel_rfl) (by kernel_rfl) (fun _ _ _ h => h) (yieldsIf_load_row (by rfl) 23 (.tmp 2) rfl w.heap.size rfl 23 (bytesA a) _ (fun _ h => h.1) Tryd.underlying23 rfl (sz_arr _ Ha.out)) hS0 ?_
  refine wpAnyH_take (i := 2) (v := .agg (bytesA b)) rfl (by kernel_rfl) (by kernel_rfl) (by kernel_rfl) (fun _ _ _ h => h) (yieldsIf_load_row (by rfl) 23 (.tmp 3) rfl (w.heap.size + 1) rfl 23 (bytesA b) _ (fun _ h => h.2.1) Tryd.underlying23 rfl (sz_arr _ Hb.out)) hS0 ?_
  simp only [Act.put, List.getElem_toArray, List.getElem_cons_zero, List.getElem_cons_succ, List.setIfInBounds_toArray, List.set_cons_succ, List.set_cons_zero]
  refine wpAnyH_ready (rs := [1]) (by kernel_rfl) (by simp) ?_
  refine AllReadyH.cons rfl (fun K hK => ?_) AllReadyH.nil
  go_simp
  refine (refBytes_any a Ha.out _).mono ?_
  rintro e w1 ⟨rfl, b1⟩
  refine hK.out _ _ ⟨below_blk b1 hS0.1 hS0.1.lt, below_blk b1 hS0.2.1 hS0.2.1.lt, keep_some b1 hS0.2.2.1, hS0.2.2.2.trans (b1.mono hS0.2.2.2.size)⟩ (fun hS1 => ?_)
  clear hK K hS0 b1
  refine wpAnyH_ready (rs := [3]) (by kernel_rfl) (by simp) ?_
  refine AllReadyH.cons rfl (fun K hK => ?_) AllReadyH.nil
  go_simp
  refine (refBytes_any b Hb.out _).mono ?_
  rintro e w2 ⟨rfl, b2⟩
  refine hK.out _ _ ⟨below_blk b2 hS1.1 hS1.1.lt, below_blk b2 hS1.2.1 hS1.2.1.lt, keep_some b2 hS1.2.2.1, hS1.2.2.2.trans (b2.mono hS1.2.2.2.size)⟩ (fun hS2 => ?_)
  clear hK K hS1 b2
  refine wpAnyH_ready (rs := [4]) (by kernel_rfl) (by simp) ?_
  refine AllReadyH.cons rfl (fun K hK => ?_) AllReadyH.nil
  go_simp
  refine hK.out _ _ hS2 (fun _ => ?_)
  clear hK K hadd
  obtain ⟨q, hq⟩ : ∃ q : ByteArray, (⟨(a ++ b).toArray⟩ : ByteArray) = q := ⟨_, rfl⟩
  rw [hq]
  have hql : q.data.toList = a ++ b := by rw [← hq]
  have hqs : q.size ≤ 1000000 := by rw [← hq, mkL_size, List.length_append, Ha.out, Hb.out]; omega
  have HQ := Lib.hid hql
  clear hq hql
  refine wpAnyH_ready (rs := [5]) (by kernel_rfl) (by simp) ?_
  refine AllReadyH.cons rfl (fun K hK => ?_) AllReadyH.nil
  go_simp
  refine (refDouble_any q hqs _).mono ?_
  rintro e w3 ⟨rfl, b3⟩
  rw [HQ.out, show dblL (a ++ b) = pairL a b from rfl]
  have HLN := Lib.hid (show (pairL a b).length = 32 from sumL_len _)
  refine hK.out _ _ ⟨below_blk b3 hS2.1 hS2.1.lt, below_blk b3 hS2.2.1 hS2.2.1.lt, keep_some b3 hS2.2.2.1, hS2.2.2.2.trans (b3.mono hS2.2.2.2.size)⟩ (fun hS3 => ?_)
  clear hK K hS2 b3
  obtain ⟨cs, hcs, kcs⟩ := hS3.2.2.1
  refine wpAnyH_ready (rs := [6]) (by kernel_rfl) (by simp) ?_
  refine AllReadyH.cons rfl (fun K hK => ?_) AllReadyH.nil
  refine step_store_arr rfl 23 (.tmp 4) (.tmp 10) rfl rfl (w.heap.size + 1 + 1) (bytesA (pairL a b)) rfl rfl 23 _ kcs (sz_arr _ HLN.out) (by rw [bytesA_size, HLN.out, hcs]) (bytesA_one _) ?_
  intro w4 o4 b4
  refine hK.out _ _ ⟨o4.blk hS3.1 (by simp; omega), o4.blk hS3.2.1 (by simp), ⟨_, by rw [bytesA_size, HLN.out], b4⟩, hS3.2.2.2.trans (o4.below (by simp; omega))⟩ (fun hS4 => ?_)
  clear hK K
  refine wpAnyH_done (by kernel_rfl) ?_ _
  go_wp2_with fail
  exact bodyPost_ret (results_cell_row rfl _ _ (w.heap.size + 1 + 1) 23 _ (0, 0) _ rfl b4 Tryd.underlying23 rfl (sz_arr _ HLN.out)) rfl ⟨rfl, hS4.2.2.2⟩
end Go.Proofs.YtdigdihokgiijaaDoor
