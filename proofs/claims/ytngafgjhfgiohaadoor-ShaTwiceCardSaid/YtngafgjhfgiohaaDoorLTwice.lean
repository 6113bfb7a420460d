/- ShaTwice: a hash hashed again is Double; one of two keys is that of their bytes: the statement's walk. -/
import Derived.Test.YtngafgjhfgiohaaDoorShaG
import Derived.Test.YtngafgjhfgiohaaDoorRefA
import Derived.Test.YtngafgjhfgiohaaDoorKeyEq
import Derived.Test.YtngafgjhfgiohaaDoorQuiet
namespace Go.Proofs.YtngafgjhfgiohaaDoor
open Go.RowKit
theorem sumMk_any (l : List UInt8) (hl : l.length ≤ 1000000) (w : World) (hR : Roots w) :
    Calls Tryd.prog 10 #[.string ⟨l.toArray⟩] w fun e w' => e = .returned (.agg (bytesA (sumL l))) ∧ Below w.heap.size w w' := sum_any ⟨l.toArray⟩ (by simpa [ByteArray.size] using hl) w hR
theorem doubleMk_any (l : List UInt8) (hl : l.length ≤ 1000000) (w : World) (hR : Roots w) :
    Calls Tryd.prog 12 #[.string ⟨l.toArray⟩] w fun e w' => e = .returned (.agg (bytesA (dblL l))) ∧ Below w.heap.size w w' := double_any ⟨l.toArray⟩ (by simpa [ByteArray.size] using hl) w hR
set_option maxHeartbeats 2000000 in
theorem twice_walk (s : ByteArray) (a b : List UInt8) (_hs : s.size ≤ maxLen) (ha : a.length = 32) (hb : b.length = 32) (w : World) (hR : Roots w) :
    Calls Tryd.prog 6 #[.string s, .agg (bytesA a), .agg (bytesA b)] w fun e w' => e = .returned (.bool true) ∧ Below w.heap.size w w' := by
  have HR := Lib.hid hR
  have l0 := hR.lt0
  have l1 := hR.lt1
  have HA := Lib.hid ha
  have HB := Lib.hid hb
  clear hR ha hb
  by_cases h1 : 2048 < s.size
  · go_enter Tryd.func6, Tryd.ntmps6
    go_wp2_with fail
    have B0 : Below w.heap.size w ((w.alloc (.cells (bytesA a) 23)).alloc (.cells (bytesA b) 23)) := ((Below.refl _ _).alloc (Nat.le_refl _) _).alloc (by simp) _
    refine (shown_any _ (HR.out.below B0 l0 l1)).mono ?_
    rintro e w1 ⟨rfl, b1⟩
    have B1 := B0.trans (b1.mono (by simp; omega))
    go_wp2
    go_ret
    exact ⟨rfl, B1⟩
  go_enter Tryd.func6, Tryd.ntmps6
  go_wp2_with fail
  have B0 : Below w.heap.size w ((w.alloc (.cells (bytesA a) 23)).alloc (.cells (bytesA b) 23)) := ((Below.refl _ _).alloc (Nat.le_refl _) _).alloc (by simp) _
  refine (shown_any _ (HR.out.below B0 l0 l1)).mono ?_
  rintro e w1 ⟨rfl, b1⟩
  have B1 := B0.trans (b1.mono (by simp; omega))
  have K4 := Lib.hid (below_blk b1 ((Blk.new w 23 (bytesA a)).alloc _) (by simp; omega))
  have K5 := Lib.hid (below_blk b1 (blk_new (w := w.alloc (.cells (bytesA a) 23)) 23 (bytesA b) (g := w.heap.size + 1) (by simp)) (by simp))
  clear b1 B0
  go_wp2_with fail
  refine (sum_any s (by omega) _ (HR.out.below B1 l0 l1)).mono ?_
  rintro e w2 ⟨rfl, b2⟩
  have B2 := B1.trans (b2.mono B1.size)
  replace K4 := Lib.hid (below_blk b2 K4.out K4.out.lt)
  replace K5 := Lib.hid (below_blk b2 K5.out K5.out.lt)
  clear b2 B1
  go_wp2_with ((with_reducible refine at_store 7 17 ?_); refine wpList_store_arr rfl 23 (.tmp 7) (.tmp 17) rfl rfl w2.heap.size (bytesA (sumL s.data.toList)) rfl rfl 23 _ (Blk.new w2 _ (bytesA (List.replicate 32 0))) (sz_arr _ (sumL_len _)) (by rw [bytesA_size, bytesA_size, sumL_len]; simp) (bytesA_one _) ?_; intro w3 o3 b3)
  have B3 : Below w.heap.size w w3 := (B2.alloc B2.size _).trans (o3.below (by simp; exact B2.size))
  have lt1 : w.heap.size < w2.heap.size := K4.out.lt
  have lt2 : w.heap.size + 1 < w2.heap.size := K5.out.lt
  replace K4 := Lib.hid (o3.blk (K4.out.alloc _) (by simp; omega))
  replace K5 := Lib.hid (o3.blk (K5.out.alloc _) (by simp; omega))
  have K7 := Lib.hid b3
  clear o3 b3 B2
  have hRq := Lib.hid (fun (wq : World) (hC : From w3 wq) => HR.out.below (B3.trans (hC.below.mono B3.size)) l0 l1)
  have hadd : ∀ V, (Op.stringOp .add ⟨a.toArray⟩ ⟨b.toArray⟩).run Tryd.prog V = .ok (.string ⟨(a ++ b).toArray⟩) V := fun V => run_string_add_lists V a b (by rw [HA.out]; decide) (by rw [HB.out]; decide)
  have hE1 : ∀ V, (Op.equal 23 (.agg (bytesA (dblL s.data.toList))) (.agg (bytesA (sumL (sumL s.data.toList))))).run Tryd.prog V = .ok true V := fun V =>
    (run_eq_bytes V Tryd.underlying23 Tryd.underlying5 (by kernel_rfl) (dblL s.data.toList) (sumL (sumL s.data.toList)) (by simp [dblL, sumL_len]) (sumL_len _)).trans (by simp [dblL])
  have hE2 : ∀ V, (Op.equal 23 (.agg (bytesA (pairL a b))) (.agg (bytesA (dblL (a ++ b))))).run Tryd.prog V = .ok true V := fun V =>
    (run_eq_bytes V Tryd.underlying23 Tryd.underlying5 (by kernel_rfl) (pairL a b) (dblL (a ++ b)) (by simp [pairL, dblL, sumL_len]) (by simp [dblL, sumL_len])).trans (by simp [pairL])
  refine wp_region_from (by kernel_rfl) (by kernel_rfl) ?_
  repeat (first
    | ((with_reducible refine at_qload 7 ?_); refine wpQuiet_load_row (by rfl) 23 (.tmp 7) rfl w2.heap.size rfl 23 (bytesA (sumL s.data.toList)) _ (fun _ hC => below_blk hC.below K7.out K7.out.lt) Tryd.underlying23 rfl (sz_arr _ (sumL_len _)) ?_; simp only [Act.put, List.setIfInBounds_toArray, List.set_cons_succ, List.set_cons_zero])
    | ((with_reducible refine at_qload 4 ?_); refine wpQuiet_load_row (by rfl) 23 (.tmp 4) rfl w.heap.size rfl 23 (bytesA a) _ (fun _ hC => below_blk hC.below K4.out K4.out.lt) Tryd.underlying23 rfl (sz_arr _ HA.out) ?_; simp only [Act.put, List.setIfInBounds_toArray, List.set_cons_succ, List.set_cons_zero])
    | ((with_reducible refine at_qload 5 ?_); refine wpQuiet_load_row (by rfl) 23 (.tmp 5) rfl (w.heap.size + 1) rfl 23 (bytesA b) _ (fun _ hC => below_blk hC.below K5.out K5.out.lt) Tryd.underlying23 rfl (sz_arr _ HB.out) ?_; simp only [Act.put, List.setIfInBounds_toArray, List.set_cons_succ, List.set_cons_zero])
    | ((with_reducible refine at_qeql 19 22 ?_); refine wpQuiet_eql_row (by rfl) 23 23 (.tmp 19) (.tmp 22) rfl (bytesA (dblL s.data.toList)) (bytesA (sumL (sumL s.data.toList))) rfl rfl (by kernel_rfl) true hE1 ?_; simp only [Act.put, List.setIfInBounds_toArray, List.set_cons_succ, List.set_cons_zero])
    | ((with_reducible refine at_qeql 27 33 ?_); refine wpQuiet_eql_row (by rfl) 23 23 (.tmp 27) (.tmp 33) rfl (bytesA (pairL a b)) (bytesA (dblL (a ++ b))) rfl rfl (by kernel_rfl) true hE2 ?_; simp only [Act.put, List.setIfInBounds_toArray, List.set_cons_succ, List.set_cons_zero])
    | (go_big_quiet_want; go_big_quiet_op; refine ⟨_, fun _ _ => by with_reducible rfl, ?_⟩; go_big_quiet_on)
    | go_big_quiet_step ((intro hC; first
        | (go_at_call 12; with_reducible exact (doubleMk_any (a ++ b) (by simp [HA.out, HB.out]) _ (hRq.out _ hC)).mono fun _ _ h => ⟨h.1, hC.call h.2⟩)
        | (go_at_call 12; with_reducible exact (double_any s (by omega) _ (hRq.out _ hC)).mono fun _ _ h => ⟨h.1, hC.call h.2⟩)
        | (go_at_call 10; with_reducible exact (sumMk_any (sumL s.data.toList) (by simp [sumL_len]) _ (hRq.out _ hC)).mono fun _ _ h => ⟨h.1, hC.call h.2⟩)
        | (go_at_call 14; with_reducible exact (pair_any _ _ HA.out HB.out _ (hRq.out _ hC)).mono fun _ _ h => ⟨h.1, hC.call h.2⟩)
        | (go_at_call 20; with_reducible exact (refBytes_any _ (by first | exact sumL_len _ | exact HA.out | exact HB.out) _).mono fun _ _ h => ⟨h.1, hC.call h.2⟩))))
  refine wpQuiet_nil ?_
  intro w9 hC
  go_wp2_with fail
  go_ret
  exact ⟨rfl, B3.trans (hC.below.mono B3.size)⟩
end Go.Proofs.YtngafgjhfgiohaaDoor
