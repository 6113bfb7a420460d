/- ShaSums: Sum, Double and Pair are the reference's: the statement's walk. -/
import Derived.Test.YtdigdihokgiijaaDoorShaG
import Derived.Test.YtdigdihokgiijaaDoorRefT
import Derived.Test.YtdigdihokgiijaaDoorKeyEq
import Derived.Test.YtdigdihokgiijaaDoorQuiet
namespace Go.Proofs.YtdigdihokgiijaaDoor
open Go.RowKit
set_option maxHeartbeats 2000000 in
theorem sums_walk (s : ByteArray) (a b : List UInt8) (_hs : s.size ≤ maxLen) (ha : a.length = 32) (hb : b.length = 32) (w : World) (hR : Roots w) :
    Calls Tryd.prog 3 #[.string s, .agg (bytesA a), .agg (bytesA b)] w fun e w' => e = .returned (.bool true) ∧ Below w.heap.size w w' := by
  have HR := Lib.hid hR
  have l0 := hR.lt0
  have l1 := hR.lt1
  have HA := Lib.hid ha
  have HB := Lib.hid hb
  clear hR ha hb
  by_cases h1 : 2048 < s.size
  · go_enter Tryd.func3, Tryd.ntmps3
    go_wp2_with fail
    have B0 : Below w.heap.size w ((w.alloc (.cells (bytesA a) 23)).alloc (.cells (bytesA b) 23)) := ((Below.refl _ _).alloc (Nat.le_refl _) _).alloc (by simp) _
    refine (shown_any _ (HR.out.below B0 l0 l1)).mono ?_
    rintro e w1 ⟨rfl, b1⟩
    have B1 := B0.trans (b1.mono (by simp; omega))
    go_wp2
    go_ret
    exact ⟨rfl, B1⟩
  go_enter Tryd.func3, Tryd.ntmps3
  go_wp2_with fail
  have B0 : Below w.heap.size w ((w.alloc (.cells (bytesA a) 23)).alloc (.cells (bytesA b) 23)) := ((Below.refl _ _).alloc (Nat.le_refl _) _).alloc (by simp) _
  refine (shown_any _ (HR.out.below B0 l0 l1)).mono ?_
  rintro e w1 ⟨rfl, b1⟩
  have B1 := B0.trans (b1.mono (by simp; omega))
  have K4 := Lib.hid (below_blk b1 ((Blk.new w 23 (bytesA a)).alloc _) (by simp; omega))
  have K5 := Lib.hid (below_blk b1 (blk_new (w := w.alloc (.cells (bytesA a) 23)) 23 (bytesA b) (g := w.heap.size + 1) (by simp)) (by simp))
  clear b1 B0
  go_wp2_with fail
  have hRq := Lib.hid (fun (wq : World) (hC : From w1 wq) => HR.out.below (B1.trans (hC.below.mono B1.size)) l0 l1)
  have hE1 : ∀ V, (Op.equal 23 (.agg (bytesA (sumL s.data.toList))) (.agg (bytesA (sumL s.data.toList)))).run Tryd.prog V = .ok true V := fun V =>
    (run_eq_bytes V Tryd.underlying23 Tryd.underlying5 (by kernel_rfl) (sumL s.data.toList) (sumL s.data.toList) (sumL_len _) (sumL_len _)).trans (by simp)
  have hE2 : ∀ V, (Op.equal 23 (.agg (bytesA (dblL s.data.toList))) (.agg (bytesA (dblL s.data.toList)))).run Tryd.prog V = .ok true V := fun V =>
    (run_eq_bytes V Tryd.underlying23 Tryd.underlying5 (by kernel_rfl) (dblL s.data.toList) (dblL s.data.toList) (sumL_len _) (sumL_len _)).trans (by simp)
  have hE3 : ∀ V, (Op.equal 23 (.agg (bytesA (pairL a b))) (.agg (bytesA (pairL a b)))).run Tryd.prog V = .ok true V := fun V =>
    (run_eq_bytes V Tryd.underlying23 Tryd.underlying5 (by kernel_rfl) (pairL a b) (pairL a b) (sumL_len _) (sumL_len _)).trans (by simp)
  refine wp_region_from (by kernel_rfl) (by kernel_rfl) ?_
  repeat (first
    | ((with_reducible refine at_qload 4 ?_); refine wpQuiet_load_row (by rfl) 23 (.tmp 4) rfl w.heap.size rfl 23 (bytesA a) _ (fun _ hC => below_blk hC.below K4.out K4.out.lt) Tryd.underlying23 rfl (sz_arr _ HA.out) ?_; simp only [Act.put, List.setIfInBounds_toArray, List.set_cons_succ, List.set_cons_zero])
    | ((with_reducible refine at_qload 5 ?_); refine wpQuiet_load_row (by rfl) 23 (.tmp 5) rfl (w.heap.size + 1) rfl 23 (bytesA b) _ (fun _ hC => below_blk hC.below K5.out K5.out.lt) Tryd.underlying23 rfl (sz_arr _ HB.out) ?_; simp only [Act.put, List.setIfInBounds_toArray, List.set_cons_succ, List.set_cons_zero])
    | ((with_reducible refine at_qeql 16 18 ?_); refine wpQuiet_eql_row (by rfl) 23 23 (.tmp 16) (.tmp 18) rfl (bytesA (sumL s.data.toList)) (bytesA (sumL s.data.toList)) rfl rfl (by kernel_rfl) true hE1 ?_; simp only [Act.put, List.setIfInBounds_toArray, List.set_cons_succ, List.set_cons_zero])
    | ((with_reducible refine at_qeql 22 24 ?_); refine wpQuiet_eql_row (by rfl) 23 23 (.tmp 22) (.tmp 24) rfl (bytesA (dblL s.data.toList)) (bytesA (dblL s.data.toList)) rfl rfl (by kernel_rfl) true hE2 ?_; simp only [Act.put, List.setIfInBounds_toArray, List.set_cons_succ, List.set_cons_zero])
    | ((with_reducible refine at_qeql 30 33 ?_); refine wpQuiet_eql_row (by rfl) 23 23 (.tmp 30) (.tmp 33) rfl (bytesA (pairL a b)) (bytesA (pairL a b)) rfl rfl (by kernel_rfl) true hE3 ?_; simp only [Act.put, List.setIfInBounds_toArray, List.set_cons_succ, List.set_cons_zero])
    | (go_big_quiet_want; go_big_quiet_op; refine ⟨_, fun _ _ => by with_reducible rfl, ?_⟩; go_big_quiet_on)
    | go_big_quiet_step ((intro hC; first
        | (go_at_call 10; with_reducible exact (sum_any s (by omega) _ (hRq.out _ hC)).mono fun _ _ h => ⟨h.1, hC.call h.2⟩)
        | (go_at_call 11; with_reducible exact (refSum_any s (by omega) _).mono fun _ _ h => ⟨h.1, hC.call h.2⟩)
        | (go_at_call 12; with_reducible exact (double_any s (by omega) _ (hRq.out _ hC)).mono fun _ _ h => ⟨h.1, hC.call h.2⟩)
        | (go_at_call 13; with_reducible exact (refDouble_any s (by omega) _).mono fun _ _ h => ⟨h.1, hC.call h.2⟩)
        | (go_at_call 14; with_reducible exact (pair_any _ _ HA.out HB.out _ (hRq.out _ hC)).mono fun _ _ h => ⟨h.1, hC.call h.2⟩)
        | (go_at_call 15; with_reducible exact (refPair_any _ _ HA.out HB.out _).mono fun _ _ h => ⟨h.1, hC.call h.2⟩))))
  refine wpQuiet_nil ?_
  intro w9 hC
  go_wp2_with fail
  go_ret
  exact ⟨rfl, B1.trans (hC.below.mono B1.size)⟩
end Go.Proofs.YtdigdihokgiijaaDoor
