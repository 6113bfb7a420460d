/- The project's roots of full trees. Written by genPD.py. -/
import Derived.Test.YtfmidmhbnpincaaDoorPjA
namespace Go.Proofs.YtfmidmhbnpincaaDoor
open Go.RowKit
set_option maxRecDepth 100000 in
theorem pWhole_one (A : Option Addr) (c : Nat) (l : List K32) (w : World) (hl : RowIn encK 32 w w.heap.size A c l) (hn : l.length = 1) :
    Calls Tryd.prog 26 #[.slice A l.length c] w fun e w' => e = .returned (.agg (encK (atK 0 l)).toArray) ∧ Below w.heap.size w w' := by
  obtain ⟨x, rfl⟩ : ∃ x, l = [x] := List.length_eq_one_iff.1 hn
  obtain ⟨g, o, hA, hg, hc⟩ := hl.at encK_len (i := 0) (by simp)
  have he : atK 0 [x] = x := rfl
  rw [he]
  subst hA
  have C0 := Lib.hid (show RowC (w.alloc (.cells (encK zeroKey).toArray 24)) g o (encK x) from by
    have := hc.below ((Below.refl _ _).alloc (Nat.le_refl _) (.cells (encK zeroKey).toArray 24)) hg
    simpa using this)
  clear hl hc hg he hn
  go_enter Tryd.func26, Tryd.ntmps26
  go_wp2_with (first
    | ((with_reducible refine at_load 8 ?_); refine tyKc.wpList_load rfl (.tmp 8) rfl g o rfl x C0.out ?_)
    | ((with_reducible refine at_store 2 9 ?_); refine tyKc.wpList_store rfl (.tmp 2) (.tmp 9) rfl rfl w.heap.size x rfl rfl 24 _ (blk_new (g := w.heap.size) 24 _ (by simp)) rfl ?_; intro w7 o7 b7))
  exact bodyPost_ret (results_cell1 rfl _ _ w.heap.size 24 _ (0, 0) _ rfl b7 Tryd.underlying24 rfl (by rw [tyKc.arr]; kernel_rfl)) rfl ⟨rfl, ((Below.refl _ _).alloc (Nat.le_refl _) _).trans (o7.below (by simp))⟩
theorem half_facts (N half : Nat) (h : N = half * 2) (hb : half ≤ 524288) (h0 : 0 < half) : ((N : Int) == 1) = false ∧ wrap64 (half : Int) = (half : Int) ∧ (N : Int).tdiv 2 = (half : Int) := by
  refine ⟨beq_eq_false_iff_ne.mpr (by omega), by unfold wrap64; omega, ?_⟩
  rw [Int.tdiv_eq_ediv_of_nonneg (by omega)]
  omega
set_option maxRecDepth 100000 in
set_option maxHeartbeats 2000000 in
theorem pWhole_step (m : Nat) (hm : m + 1 ≤ 20)
    (ih : ∀ (A : Option Addr) (c : Nat) (l : List K32) (w : World), RowIn encK 32 w w.heap.size A c l → l.length = 2 ^ m → Roots w → Calls Tryd.prog 26 #[.slice A l.length c] w fun e w' => e = .returned (.agg (encK (atK m l)).toArray) ∧ Below w.heap.size w w')
    (A : Option Addr) (c : Nat) (l : List K32) (w : World) (hl : RowIn encK 32 w w.heap.size A c l) (hn : l.length = 2 ^ (m + 1)) (hR : Roots w) :
    Calls Tryd.prog 26 #[.slice A l.length c] w fun e w' => e = .returned (.agg (encK (atK (m + 1) l)).toArray) ∧ Below w.heap.size w w' := by
  have HR := Lib.hid hR
  have hp2 : 2 ^ m ≤ 524288 := Nat.le_trans (Nat.pow_le_pow_right (by decide) (show m ≤ 19 by omega)) (by decide)
  have hp3 := Nat.two_pow_pos m
  rw [Nat.pow_succ] at hn
  have hle := hl.le
  obtain ⟨half, hhalf⟩ : ∃ half, 2 ^ m = half := ⟨_, rfl⟩
  have HE := Lib.hid (show pairK (atK m (l.take half)) (atK m (l.drop half)) = atK (m + 1) l by rw [← hhalf]; rfl)
  have ihA : ∀ (A : Option Addr) (c : Nat) (l : List K32) (w : World), RowIn encK 32 w w.heap.size A c l → l.length = half → Roots w → Calls Tryd.prog 26 #[.slice A l.length c] w fun e w' => e = .returned (.agg (encK (atK m l)).toArray) ∧ Below w.heap.size w w' := by rw [← hhalf]; exact ih
  rw [hhalf] at hn hp2 hp3
  have hs1 : ∀ W, (Instr.slice 28 (.slice A l.length c) none (some (.int .i64 (half : Int))) none).run Tryd.prog W = .ok (.slice A half c) W := fun W => tyKy.slice_to W A l.length c half (by omega)
  have hs2 : ∀ W, (Instr.slice 28 (.slice A l.length c) (some (.int .i64 (half : Int))) none none).run Tryd.prog W = .ok (.slice (cutA 32 c half A) (l.length - half) (c - half)) W := fun W => tyKy.slice_from W A l.length c half (by omega)
  rw [show l.length - half = half by omega] at hs2
  have e1 : (l.take half).length = half := by rw [List.length_take]; omega
  have e2 : (l.drop half).length = half := by rw [List.length_drop]; omega
  have L1 := Lib.hid (show ∀ W, Below w.heap.size w W → Calls Tryd.prog 26 #[.slice A half c] W fun e w' => e = .returned (.agg (encK (atK m (l.take half))).toArray) ∧ Below W.heap.size W w' from fun W hb => by
    have := ihA A c (l.take half) W (((hl.below hb).more hb.size).take encK_len half) e1 (hR.on _ hb)
    rwa [e1] at this)
  have L2 := Lib.hid (show ∀ W, Below w.heap.size w W → Calls Tryd.prog 26 #[.slice (cutA 32 c half A) half (c - half)] W fun e w' => e = .returned (.agg (encK (atK m (l.drop half))).toArray) ∧ Below W.heap.size W w' from fun W hb => by
    have := ihA (cutA 32 c half A) (c - half) (l.drop half) W (((hl.below hb).more hb.size).drop encK_len half (by omega)) e2 (hR.on _ hb)
    rwa [e2] at this)
  obtain ⟨ka, hka⟩ : ∃ ka, atK m (l.take half) = ka := ⟨_, rfl⟩
  obtain ⟨kb, hkb⟩ : ∃ kb, atK m (l.drop half) = kb := ⟨_, rfl⟩
  rw [hka] at L1 HE
  rw [hkb] at L2 HE
  obtain ⟨kc, hkc⟩ : ∃ kc, atK (m + 1) l = kc := ⟨_, rfl⟩
  rw [hkc] at HE ⊢
  obtain ⟨N, hN⟩ : ∃ N, l.length = N := ⟨_, rfl⟩
  rw [hN] at hs1 hs2 hn ⊢
  obtain ⟨hd, hwh, hq2⟩ := half_facts N half hn hp2 hp3
  clear hl hle e1 e2 hka hkb hkc ih ihA hp2 hp3 hhalf hR hN hn
  go_enter Tryd.func26, Tryd.ntmps26
  go_wp2_with fail
  have B0 := Lib.hid (show Below w.heap.size w (w.alloc (.cells (encK zeroKey).toArray 24)) from (Below.refl _ _).alloc (Nat.le_refl _) _)
  have R0 := Lib.hid (Blk.new w 24 (encK zeroKey).toArray)
  obtain ⟨W0, hW0⟩ : ∃ W0, (w.alloc (.cells (encK zeroKey).toArray 24)) = W0 := ⟨_, rfl⟩
  rw [hW0] at B0 R0
  change Code.wp _ _ _ _ (w.alloc (.cells (encK zeroKey).toArray 24))
  rw [hW0]
  clear hW0
  have B0d := Lib.hid (show Below w.heap.size w W0.drew from B0.out.drew)
  refine wp_region_held_drew (S := fun _ => True) (by kernel_rfl) trivial ?_
  intro hS
  refine wpAnyH_take (i := 0) (v := .slice A N c) rfl (by kernel_rfl) (by kernel_rfl) (by kernel_rfl) (fun _ _ _ h => h) (Or.inl ⟨by rfl, fun W _ => by go_simp; try with_reducible rfl⟩) hS ?_
  simp only [Act.put, List.getElem_toArray, List.getElem_cons_zero, List.setIfInBounds_toArray, List.set_cons_succ, List.set_cons_zero]
  refine wpAnyH_take (i := 1) (v := .int .i64 half) rfl (by kernel_rfl) (by kernel_rfl) (by kernel_rfl) (fun _ _ _ h => h) (Or.inl ⟨by rfl, fun W _ => by go_simp; try with_reducible rfl⟩) hS ?_
  simp only [Act.put, List.getElem_toArray, List.getElem_cons_zero, List.getElem_cons_succ, List.setIfInBounds_toArray, List.set_cons_succ, List.set_cons_zero]
  refine wpAnyH_take (i := 2) (v := .slice A half c) rfl (by kernel_rfl) (by kernel_rfl) (by kernel_rfl) (fun _ _ _ h => h) (Or.inl ⟨by rfl, fun W _ => by go_simp; try with_reducible rfl⟩) hS ?_
  simp only [Act.put, List.getElem_toArray, List.getElem_cons_zero, List.getElem_cons_succ, List.setIfInBounds_toArray, List.set_cons_succ, List.set_cons_zero]
  refine wpAnyH_take (i := 4) (v := .slice A N c) rfl (by kernel_rfl) (by kernel_rfl) (by kernel_rfl) (fun _ _ _ h => h) (Or.inl ⟨by rfl, fun W _ => by go_simp; try with_reducible rfl⟩) hS ?_
  simp only [Act.put, List.getElem_toArray, List.getElem_cons_zero, List.getElem_cons_succ, List.setIfInBounds_toArray, List.set_cons_succ, List.set_cons_zero]
  refine wpAnyH_take (i := 5) (v := .int .i64 half) rfl (by kernel_rfl) (by kernel_rfl) (by kernel_rfl) (fun _ _ _ h => h) (Or.inl ⟨by rfl, fun W _ => by go_simp; try with_reducible rfl⟩) hS ?_
  simp only [Act.put, List.getElem_toArray, List.getElem_cons_zero, List.getElem_cons_succ, List.setIfInBounds_toArray, List.set_cons_succ, List.set_cons_zero]
  refine wpAnyH_take (i := 6) (v := .slice (cutA 32 c half A) half (c - half)) rfl (by kernel_rfl) (by kernel_rfl) (by kernel_rfl) (fun _ _ _ h => h) (Or.inl ⟨by rfl, fun W _ => by go_simp; try with_reducible rfl⟩) hS ?_
  simp only [Act.put, List.getElem_toArray, List.getElem_cons_zero, List.getElem_cons_succ, List.setIfInBounds_toArray, List.set_cons_succ, List.set_cons_zero]
  refine wpAnyH_ready (rs := [3]) (by kernel_rfl) (by simp) ?_
  refine AllReadyH.cons rfl (fun Kq hK => ?_) AllReadyH.nil
  go_simp
  with_reducible refine (L1.out _ B0d.out).mono ?_
  rintro e x1 ⟨rfl, b1⟩
  have B1 := Lib.hid (B0d.out.trans (b1.mono B0d.out.size))
  have R1 := Lib.hid (below_blk b1 R0.out R0.out.lt)
  refine hK.out _ _ trivial (fun hS => ?_)
  clear hK Kq b1
  refine wpAnyH_ready (rs := [7]) (by kernel_rfl) (by simp) ?_
  refine AllReadyH.cons rfl (fun Kq hK => ?_) AllReadyH.nil
  go_simp
  with_reducible refine (L2.out _ B1.out).mono ?_
  rintro e x2 ⟨rfl, b2⟩
  have B2 := Lib.hid (B1.out.trans (b2.mono B1.out.size))
  have R2 := Lib.hid (below_blk b2 R1.out R1.out.lt)
  refine hK.out _ _ trivial (fun hS => ?_)
  clear hK Kq b2
  refine wpAnyH_ready (rs := [8]) (by kernel_rfl) (by simp) ?_
  refine AllReadyH.cons rfl (fun Kq hK => ?_) AllReadyH.nil
  go_simp
  with_reducible refine (pPair_r ka kb _ (HR.out.on _ B2.out)).mono ?_
  rintro e x3 ⟨rfl, b3⟩
  rw [HE.out]
  have B3 := Lib.hid (B2.out.trans (b3.mono B2.out.size))
  have R3 := Lib.hid (below_blk b3 R2.out R2.out.lt)
  refine hK.out _ _ trivial (fun hS => ?_)
  clear hK Kq b3
  refine wpAnyH_ready (rs := [9]) (by kernel_rfl) (by simp) ?_
  refine AllReadyH.cons rfl (fun Kq hK => ?_) AllReadyH.nil
  refine tyKc.step_store rfl (.tmp 2) (.tmp 21) rfl rfl w.heap.size kc rfl rfl 24 _ R3.out (by rw [tyKc.arr]) ?_
  intro w4 o4 b4
  have B4 := Lib.hid (B3.out.trans (o4.below (by simp)))
  refine hK.out _ _ trivial (fun _ => ?_)
  clear hK Kq hS
  refine wpAnyH_done (by kernel_rfl) ?_ _
  go_wp2_with fail
  exact bodyPost_ret (results_cell1 rfl _ _ w.heap.size 24 _ (0, 0) _ rfl b4 Tryd.underlying24 rfl (by rw [tyKc.arr]; kernel_rfl)) rfl ⟨rfl, B4.out⟩
theorem pWhole_r (h : Nat) (hh : h ≤ 20) : ∀ (A : Option Addr) (c : Nat) (l : List K32) (w : World), RowIn encK 32 w w.heap.size A c l → l.length = 2 ^ h → Roots w →
    Calls Tryd.prog 26 #[.slice A l.length c] w fun e w' => e = .returned (.agg (encK (atK h l)).toArray) ∧ Below w.heap.size w w' := by
  induction h with
  | zero => exact fun A c l w hl hn _ => pWhole_one A c l w hl (by simpa using hn)
  | succ m ih => exact fun A c l w hl hn hR => pWhole_step m hh (ih (by omega)) A c l w hl hn hR
end Go.Proofs.YtfmidmhbnpincaaDoor
