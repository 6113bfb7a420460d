/- The statements' shown(). -/
import Derived.Test.YtdojjddobepccaaKeyT
import Derived.Test.YtdojjddobepccaaRowK2
namespace Go.Proofs.Ytdojjddobepccaa
open Go.RowKit Go.Sort
def keyN (n : UInt8) : K32 := ⟨n :: List.replicate 31 0, by simp⟩
theorem built2 : Try.prog.built 23 [(0, .int .u8 2)] = some (bytesA (keyN 2).1) := by kernel_rfl
theorem built1 : Try.prog.built 23 [(0, .int .u8 1)] = some (bytesA (keyN 1).1) := by kernel_rfl
theorem sort21 : sortK [keyN 2, keyN 1] = [keyN 1, keyN 2] := by decide
theorem less12 : ltK (keyN 1) (keyN 2) = true := by decide
theorem zeroK : ((Try.prog.info? 23).bind (·.zero)).isSome = true := by kernel_rfl
theorem valK (x : K32) : Value.agg (bytesA x.1) = .agg (encK x).toArray := by rw [encK_arr]
set_option maxHeartbeats 1000000 in
theorem shown_any (w : World) : Calls Try.prog 10 #[] w fun e w' => e = .returned (.bool true) ∧ Below w.heap.size w w' := by
  have hs := sort_any (some ⟨w.heap.size, 0, none⟩) 2 [keyN 2, keyN 1] (w.heap.size + 1) (w.alloc (.cells (cellsOf encK [keyN 2, keyN 1]).toArray 23)) (by simp) (by simp)
    ⟨by simp, by simp [maxLen], fun _ => ⟨w.heap.size, 0, rfl, by omega, by have := RowC.of_blk (Blk.new w 23 (cellsOf encK [keyN 2, keyN 1]).toArray); simpa using this⟩⟩
  rw [sort21] at hs
  have HS := Lib.hid hs
  clear hs
  go_enter Try.func10, Try.ntmps10
  go_wp2_with (first
    | ((with_reducible refine at_buildSlice 4 ?_); refine tyK.wpList_build rfl zeroK 2 _ rfl [keyN 2, keyN 1] rfl (by omega) (by omega) (by kernel_rfl) ?_)
    | (go_at_call 18; refine HS.out.mono ?_; rintro e w1 ⟨v, rfl, o1, b1⟩))
  have B1 : Below w.heap.size w w1 := ((Below.refl _ _).alloc (Nat.le_refl _) _).trans (b1.mono (by simp))
  clear b1 HS
  obtain ⟨A, c, rfl, hr⟩ := RowIn.of_own encK_len (l := [keyN 1, keyN 2]) o1
  clear o1
  have HRI := Lib.hid hr
  obtain ⟨g, o, rfl, hg, hc⟩ := hr.cells (by simp)
  have HX := Lib.hid (hc.at encK_len (i := 0) (by simp))
  have HY := Lib.hid (hc.at encK_len (i := 1) (by simp))
  clear hc hr
  refine wp_region_held_drew (S := From w1) (by kernel_rfl) (Below.refl _ _).drew ?_
  intro hS0
  refine wpAnyH_take (i := 0) (v := .slice (some ⟨g, o, none⟩) 2 c) rfl (by kernel_rfl) (by kernel_rfl) (by kernel_rfl) (fun _ _ _ h => h) (Or.inl ⟨by rfl, fun W _ => by go_simp; try with_reducible rfl⟩) hS0 ?_
  simp only [Act.put, List.getElem_toArray, List.getElem_cons_zero, List.setIfInBounds_toArray, List.set_cons_succ, List.set_cons_zero]
  refine wpAnyH_take (i := 1) (v := .agg (bytesA (keyN 1).1)) rfl (by kernel_rfl) (by kernel_rfl) (by kernel_rfl) (fun _ _ _ h => h) (yieldsIf_build (by rfl) 23 _ rfl (bytesA (keyN 1).1) (by kernel_rfl)) hS0 ?_
  simp only [Act.put, List.getElem_toArray, List.getElem_cons_zero, List.getElem_cons_succ, List.setIfInBounds_toArray, List.set_cons_succ, List.set_cons_zero]
  refine wpAnyH_take (i := 2) (v := .agg (bytesA (keyN 2).1)) rfl (by kernel_rfl) (by kernel_rfl) (by kernel_rfl) (fun _ _ _ h => h) (yieldsIf_build (by rfl) 23 _ rfl (bytesA (keyN 2).1) (by kernel_rfl)) hS0 ?_
  simp only [Act.put, List.getElem_toArray, List.getElem_cons_zero, List.getElem_cons_succ, List.setIfInBounds_toArray, List.set_cons_succ, List.set_cons_zero]
  refine wpAnyH_ready (rs := [3]) (by kernel_rfl) (by simp) ?_
  refine AllReadyH.cons rfl (fun Kq hK => ?_) AllReadyH.nil
  refine tyK.step_build rfl zeroK 2 _ rfl [keyN 1, keyN 2] rfl (by omega) (by omega) (by kernel_rfl) ?_
  refine hK.out _ _ (hS0.call ((Below.refl _ _).alloc (Nat.le_refl _) _)) (fun hS1 => ?_)
  clear hK Kq
  have K2 := blk_new (w := w1.drew) 23 (cellsOf encK [keyN 1, keyN 2]).toArray (g := w1.heap.size) rfl
  have HK2 := Lib.hid K2
  clear K2
  simp only [Act.put, List.getElem_toArray, List.getElem_cons_zero, List.getElem_cons_succ, List.setIfInBounds_toArray, List.set_cons_succ, List.set_cons_zero]
  generalize w1.drew.alloc (.cells (cellsOf encK [keyN 1, keyN 2]).toArray 23) = w2 at HK2 hS1 ⊢
  refine wpAnyH_ready (rs := [4]) (by kernel_rfl) (by simp) ?_
  refine AllReadyH.cons rfl (fun Kq hK => ?_) AllReadyH.nil
  go_simp
  refine (same_any (some ⟨g, o, none⟩) c [keyN 1, keyN 2] (some ⟨w1.heap.size, 0, none⟩) 2 [keyN 1, keyN 2] w2 (by simp) (by simp) ((HRI.out.below hS1.below).more hS1.below.size) (rowIn_new HK2.out (by simp) (by simp [maxLen]))).mono ?_
  rintro e w3 ⟨rfl, b3⟩
  refine hK.out _ _ (hS1.call b3) (fun hS2 => ?_)
  clear hK Kq hS1 HK2 b3
  rw [show decide ([keyN 1, keyN 2] = [keyN 1, keyN 2]) = true from decide_eq_true rfl]
  refine wpAnyH_take (i := 5) (v := .bool true) rfl (by kernel_rfl) (by kernel_rfl) (by kernel_rfl) (fun _ _ _ h => h) (Or.inl ⟨by rfl, fun W _ => by go_simp; try with_reducible rfl⟩) hS2 ?_
  simp only [Act.put, List.getElem_toArray, List.getElem_cons_zero, List.getElem_cons_succ, List.setIfInBounds_toArray, List.set_cons_succ, List.set_cons_zero]
  refine wpAnyH_take (i := 6) (v := .slice (some ⟨g, o, none⟩) 2 c) rfl (by kernel_rfl) (by kernel_rfl) (by kernel_rfl) (fun _ _ _ h => h) (Or.inl ⟨by rfl, fun W _ => by go_simp; try with_reducible rfl⟩) hS2 ?_
  simp only [Act.put, List.getElem_toArray, List.getElem_cons_zero, List.getElem_cons_succ, List.setIfInBounds_toArray, List.set_cons_succ, List.set_cons_zero]
  refine wpAnyH_take (i := 7) (v := .pointer (some ⟨g, o, none⟩)) rfl (by kernel_rfl) (by kernel_rfl) (by kernel_rfl) (fun _ _ _ h => h) (Or.inl ⟨by rfl, fun W _ => by go_simp; try with_reducible rfl⟩) hS2 ?_
  simp only [Act.put, List.getElem_toArray, List.getElem_cons_zero, List.getElem_cons_succ, List.setIfInBounds_toArray, List.set_cons_succ, List.set_cons_zero]
  refine wpAnyH_take (i := 8) (v := .agg (bytesA (keyN 1).1)) rfl (by kernel_rfl) (by kernel_rfl) (by kernel_rfl) (fun _ _ _ h => h) (tyK.yieldsIf_load (by rfl) (.tmp 13) rfl g o rfl (keyN 1) (fun W hS => (HX.out.below hS.below hg).cast (by omega))) hS2 ?_
  simp only [Act.put, List.getElem_toArray, List.getElem_cons_zero, List.getElem_cons_succ, List.setIfInBounds_toArray, List.set_cons_succ, List.set_cons_zero]
  refine wpAnyH_take (i := 9) (v := .slice (some ⟨g, o, none⟩) 2 c) rfl (by kernel_rfl) (by kernel_rfl) (by kernel_rfl) (fun _ _ _ h => h) (Or.inl ⟨by rfl, fun W _ => by go_simp; try with_reducible rfl⟩) hS2 ?_
  simp only [Act.put, List.getElem_toArray, List.getElem_cons_zero, List.getElem_cons_succ, List.setIfInBounds_toArray, List.set_cons_succ, List.set_cons_zero]
  refine wpAnyH_take (i := 10) (v := .pointer (some ⟨g, o + 32, none⟩)) rfl (by kernel_rfl) (by kernel_rfl) (by kernel_rfl) (fun _ _ _ h => h) (Or.inl ⟨by rfl, fun W _ => by go_simp; try with_reducible rfl⟩) hS2 ?_
  simp only [Act.put, List.getElem_toArray, List.getElem_cons_zero, List.getElem_cons_succ, List.setIfInBounds_toArray, List.set_cons_succ, List.set_cons_zero]
  refine wpAnyH_take (i := 11) (v := .agg (bytesA (keyN 2).1)) rfl (by kernel_rfl) (by kernel_rfl) (by kernel_rfl) (fun _ _ _ h => h) (tyK.yieldsIf_load (by rfl) (.tmp 16) rfl g (o + 32) rfl (keyN 2) (fun W hS => (HY.out.below hS.below hg).cast (by omega))) hS2 ?_
  simp only [Act.put, List.getElem_toArray, List.getElem_cons_zero, List.getElem_cons_succ, List.setIfInBounds_toArray, List.set_cons_succ, List.set_cons_zero]
  refine wpAnyH_ready (rs := [12]) (by kernel_rfl) (by simp) ?_
  refine AllReadyH.cons rfl (fun Kq hK => ?_) AllReadyH.nil
  go_simp
  refine (less_any (keyN 1) (keyN 2) w3).mono ?_
  rintro e w4 ⟨rfl, g4⟩
  refine hK.out _ _ (hS2.call g4.below) (fun hS3 => ?_)
  clear hK Kq hS2 g4
  rw [less12]
  refine wpAnyH_take (i := 13) (v := .bool true) rfl (by kernel_rfl) (by kernel_rfl) (by kernel_rfl) (fun _ _ _ h => h) (Or.inl ⟨by rfl, fun W _ => by go_simp; try with_reducible rfl⟩) hS3 ?_
  simp only [Act.put, List.getElem_toArray, List.getElem_cons_zero, List.getElem_cons_succ, List.setIfInBounds_toArray, List.set_cons_succ, List.set_cons_zero]
  refine wpAnyH_ready (rs := [14]) (by kernel_rfl) (by simp) ?_
  refine AllReadyH.cons rfl (fun Kq hK => ?_) AllReadyH.nil
  go_simp
  refine hK.out _ _ hS3 (fun _ => ?_)
  clear hK Kq
  refine wpAnyH_done (by kernel_rfl) ?_ _
  go_wp2_with fail
  go_ret
  exact ⟨rfl, B1.trans (hS3.below.mono B1.size)⟩
end Go.Proofs.Ytdojjddobepccaa
