/- The project's tree: set, Pair of two keys, Empty. Written by genPA.py. -/
import Derived.Test.YtfmidmhbnpincaaDoorTreeT
namespace Go.Proofs.YtfmidmhbnpincaaDoor
open Go.RowKit
theorem pPair_r (a b : K32) (w : World) (hR : Roots w) :
    Calls Tryd.prog 24 #[.agg (encK a).toArray, .agg (encK b).toArray] w fun e w' => e = .returned (.agg (encK (pairK a b)).toArray) ∧ Below w.heap.size w w' := by
  rw [encK_arr, encK_arr, encK_arr]
  exact pair_any a.1 b.1 a.2 b.2 w hR
theorem tset_any (c n : Nat) (hc : c < 4294967296) (hn : n < 32) (r : Bool) (hr : bitN c n = r) (w : World) :
    Calls Tryd.prog 23 #[.int .u32 c, .int .i64 n] w fun e w' => e = .returned (.bool r) ∧ w' = w := by
  have hbt := bit_test c n hc
  rw [hr] at hbt
  have hge : (0 : Int) ≤ (n : Int) := by omega
  have hi1 : (n : Int) < 32 := by omega
  clear hr
  go_enter Tryd.func23, Tryd.ntmps23
  go_wp2_with fail
  go_ret
  exact ⟨rfl, rfl⟩
set_option maxRecDepth 100000 in
set_option maxHeartbeats 2000000 in
theorem pEmpty_r : EmpTOk := by
  intro w hR
  have HR := Lib.hid hR
  obtain ⟨Z, hZ, hz, hzs, hzn⟩ := zero_of zeroE_ok zE_size
  have HZ := Lib.hid hZ
  have HS := Lib.hid hzs
  have K2 := Lib.hid (show Blk ((w.alloc (.cells Z 40)).alloc (.cells Z 40)) (w.heap.size + 1) 40 (mkE 0 (by omega)).cells.toArray from by
    rw [mkE_zero, ← hZ]
    have := Blk.new (w.alloc (.cells Z 40)) 40 Z
    rwa [World.size_alloc] at this)
  have R2 := Lib.hid (show Blk ((w.alloc (.cells Z 40)).alloc (.cells Z 40)) w.heap.size 40 Z from (Blk.new w 40 Z).alloc (.cells Z 40))
  have B2 := Lib.hid (show Below w.heap.size w ((w.alloc (.cells Z 40)).alloc (.cells Z 40)) from ((Below.refl w.heap.size w).alloc (Nat.le_refl _) (.cells Z 40)).alloc (by simp) (.cells Z 40))
  clear hZ hR
  go_enter Tryd.func17, Tryd.ntmps17
  go_wp2_with fail
  clear hz hzn
  go_loopw [3] (fun i wr => ∃ (k : Nat) (hk : k ≤ 32), i = .int .i64 k ∧ Hid (Blk wr (w.heap.size + 1) 40 (mkE k hk).cells.toArray) ∧ Hid (Blk wr w.heap.size 40 Z) ∧ Hid (Below w.heap.size w wr)) (fun i _ => 32 - (intOf i).toNat)
  case atStart => exact ⟨0, by omega, rfl, K2, R2, B2⟩
  case round =>
    clear K2 R2 B2
    obtain ⟨k, hk, rfl, KE, KZ, KB⟩ := hrel
    by_cases hlt : k < 32
    · have hd : decide ((k : Int) < 32) = true := by simp; omega
      go_wp2_with fail
      have hge : (0 : Int) ≤ (k : Int) := by omega
      have hi1 : (k : Int) < 33 := by omega
      have hi2 : (k : Int) + 1 < 33 := by omega
      have hi3 : (0 : Int) ≤ (k : Int) + 1 := by omega
      have hwr : IntKind.i64.wrap ((k : Int) + 1) = (k : Int) + 1 := by rw [IntKind.wrap_i64]; omega
      have htn : ((k : Int) + 1).toNat = k + 1 := by omega
      have E0 := Lib.hid (show EmS w Z (mkE k hk) wr from ⟨KB.out, KZ.out, KE.out⟩)
      refine wp_region_held_drew (S := fun W => RowC W (w.heap.size + 1) (k * 32) (encK (empK k))) (by kernel_rfl) (mkE_at hk E0.out.drew.e) ?_
      clear KE KZ KB
      intro hS
      refine wpAnyH_take (i := 0) (v := .int .i64 k) rfl (by kernel_rfl) (by kernel_rfl) (by kernel_rfl) (fun _ _ _ h => h) (Or.inl ⟨by rfl, fun W _ => by go_simp; try with_reducible rfl⟩) hS ?_
      simp only [Act.put, List.getElem_toArray, List.getElem_cons_zero, List.setIfInBounds_toArray, List.set_cons_succ, List.set_cons_zero]
      refine wpAnyH_take (i := 1) (v := .int .i64 ((k : Int) + 1)) rfl (by kernel_rfl) (by kernel_rfl) (by kernel_rfl) (fun _ _ _ h => h) (Or.inl ⟨by rfl, fun W _ => by go_simp; try with_reducible rfl⟩) hS ?_
      simp only [Act.put, List.getElem_toArray, List.getElem_cons_zero, List.getElem_cons_succ, List.setIfInBounds_toArray, List.set_cons_succ, List.set_cons_zero]
      refine wpAnyH_take (i := 2) (v := .int .i64 k) rfl (by kernel_rfl) (by kernel_rfl) (by kernel_rfl) (fun _ _ _ h => h) (Or.inl ⟨by rfl, fun W _ => by go_simp; try with_reducible rfl⟩) hS ?_
      simp only [Act.put, List.getElem_toArray, List.getElem_cons_zero, List.getElem_cons_succ, List.setIfInBounds_toArray, List.set_cons_succ, List.set_cons_zero]
      refine wpAnyH_take (i := 3) (v := .pointer (some ⟨w.heap.size + 1, k * 32, none⟩)) rfl (by kernel_rfl) (by kernel_rfl) (by kernel_rfl) (fun _ _ _ h => h) (Or.inl ⟨by rfl, fun W _ => by go_simp; try with_reducible rfl⟩) hS ?_
      simp only [Act.put, List.getElem_toArray, List.getElem_cons_zero, List.getElem_cons_succ, List.setIfInBounds_toArray, List.set_cons_succ, List.set_cons_zero]
      refine wpAnyH_take (i := 4) (v := .agg (encK (empK k)).toArray) rfl (by kernel_rfl) (by kernel_rfl) (by kernel_rfl) (fun _ _ _ h => h) (tyKc.yieldsIf_load (by rfl) (.tmp 9) rfl (w.heap.size + 1) (k * 32) rfl (empK k) (fun _ h => h)) hS ?_
      simp only [Act.put, List.getElem_toArray, List.getElem_cons_zero, List.getElem_cons_succ, List.setIfInBounds_toArray, List.set_cons_succ, List.set_cons_zero]
      refine wpAnyH_take (i := 5) (v := .int .i64 k) rfl (by kernel_rfl) (by kernel_rfl) (by kernel_rfl) (fun _ _ _ h => h) (Or.inl ⟨by rfl, fun W _ => by go_simp; try with_reducible rfl⟩) hS ?_
      simp only [Act.put, List.getElem_toArray, List.getElem_cons_zero, List.getElem_cons_succ, List.setIfInBounds_toArray, List.set_cons_succ, List.set_cons_zero]
      refine wpAnyH_take (i := 6) (v := .pointer (some ⟨w.heap.size + 1, k * 32, none⟩)) rfl (by kernel_rfl) (by kernel_rfl) (by kernel_rfl) (fun _ _ _ h => h) (Or.inl ⟨by rfl, fun W _ => by go_simp; try with_reducible rfl⟩) hS ?_
      simp only [Act.put, List.getElem_toArray, List.getElem_cons_zero, List.getElem_cons_succ, List.setIfInBounds_toArray, List.set_cons_succ, List.set_cons_zero]
      refine wpAnyH_take (i := 7) (v := .agg (encK (empK k)).toArray) rfl (by kernel_rfl) (by kernel_rfl) (by kernel_rfl) (fun _ _ _ h => h) (tyKc.yieldsIf_load (by rfl) (.tmp 12) rfl (w.heap.size + 1) (k * 32) rfl (empK k) (fun _ h => h)) hS ?_
      simp only [Act.put, List.getElem_toArray, List.getElem_cons_zero, List.getElem_cons_succ, List.setIfInBounds_toArray, List.set_cons_succ, List.set_cons_zero]
      refine wpAnyH_ready (rs := [8]) (by kernel_rfl) (by simp) ?_
      refine AllReadyH.cons rfl (fun Kq hK => ?_) AllReadyH.nil
      go_simp
      with_reducible refine (pPair_r (empK k) (empK k) _ (HR.out.on _ E0.out.drew.below)).mono ?_
      rintro e x1 ⟨rfl, b1⟩
      have E1 := Lib.hid (E0.out.drew.call b1)
      refine hK.out _ _ (mkE_at hk E1.out.e) (fun hS => ?_)
      clear hK Kq b1 E0
      refine wpAnyH_take (i := 9) (v := .pointer (some ⟨w.heap.size + 1, (k + 1) * 32, none⟩)) rfl (by kernel_rfl) (by kernel_rfl) (by kernel_rfl) (fun _ _ _ h => h) (Or.inl ⟨by rfl, fun W _ => by go_simp; try with_reducible rfl⟩) hS ?_
      simp only [Act.put, List.getElem_toArray, List.getElem_cons_zero, List.getElem_cons_succ, List.setIfInBounds_toArray, List.set_cons_succ, List.set_cons_zero]
      refine wpAnyH_ready (rs := [10]) (by kernel_rfl) (by simp) ?_
      refine AllReadyH.cons rfl (fun Kq hK => ?_) AllReadyH.nil
      refine tyKc.step_storeAt rfl (.tmp 15) (.tmp 14) rfl rfl (w.heap.size + 1) ((k + 1) * 32) (empK (k + 1)) rfl rfl 40 _ E1.out.e (by rw [E33.len]; omega) ?_
      intro w4 o4 b4
      rw [E33.set_key _ (k + 1) (by omega), mkE_set k hlt] at b4
      have K4 := Lib.hid b4
      have Z4 := Lib.hid (o4.blk E1.out.z (by simp))
      have B4 := Lib.hid (E1.out.below.trans (o4.below (by simp)))
      refine hK.out _ _ ?_ (fun _ => ?_)
      · have := (mkE (k + 1) (by omega)).at (RowC.of_blk K4.out) k (by omega)
        rwa [mkE_low k hlt] at this
      clear hK Kq hS o4 b4 E1
      refine wpAnyH_done (by kernel_rfl) ?_ _
      go_wp2_with fail
      go_roundw
      case rel => exact ⟨k + 1, by omega, by go_num, K4, Z4, B4⟩
      case measure => simp [intOf]; omega
    · obtain rfl : k = 32 := by omega
      go_wp2_with (first
        | ((with_reducible refine at_load 1 ?_); refine tyE.wpList_load rfl (.tmp 1) rfl (w.heap.size + 1) 0 rfl (mkE 32 hk) (by simpa using RowC.of_blk KE.out) ?_)
        | ((with_reducible refine at_store 0 17 ?_); refine tyE.wpList_store rfl (.tmp 0) (.tmp 17) rfl rfl w.heap.size (mkE 32 hk) rfl rfl 40 Z KZ.out (by rw [HS.out]) ?_; intro w2 o2 b2))
      exact bodyPost_ret (results_cell1 rfl _ _ w.heap.size 40 _ (0, 0) _ rfl b2 Tryd.underlying40 rfl (by rw [tyE.arr]; kernel_rfl)) rfl ⟨rfl, KB.out.trans (o2.below (by simp))⟩
end Go.Proofs.YtfmidmhbnpincaaDoor
