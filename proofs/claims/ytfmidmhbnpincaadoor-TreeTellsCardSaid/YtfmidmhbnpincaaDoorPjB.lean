/- The project's Append. Written by genPB.py. -/
import Derived.Test.YtfmidmhbnpincaaDoorPjA
import Derived.WalkMore
namespace Go.Proofs.YtfmidmhbnpincaaDoor
open Go.RowKit
/-- what lies there while Append is at work -/
structure PpS (w : World) (Z : Array Value) (t : TrV) (x : K32) (W : World) : Prop where
  below : Below w.heap.size w W
  t : Blk W w.heap.size 27 t.cells.toArray
  r : Blk W (w.heap.size + 1 + 1) 27 Z
  x : Blk W (w.heap.size + 1 + 1 + 1) 24 (encK x).toArray
theorem PpS.call {w W W' : World} {Z : Array Value} {t : TrV} {x : K32} (h : PpS w Z t x W) (hb : Below W.heap.size W W') : PpS w Z t x W' :=
  ⟨h.below.trans (hb.mono h.below.size), below_blk hb h.t h.t.lt, below_blk hb h.r h.r.lt, below_blk hb h.x h.x.lt⟩
theorem PpS.drew {w W : World} {Z : Array Value} {t : TrV} {x : K32} (h : PpS w Z t x W) : PpS w Z t x W.drew := ⟨h.below.drew, h.t, h.r, h.x⟩
set_option maxRecDepth 100000 in
theorem pApp_full (t : TrV) (k : K32) (w : World) (hf : t.c = 4294967295) :
    Calls Tryd.prog 13 #[.agg t.cells.toArray, .agg (encK k).toArray] w fun e w' => e = .returned (.tuple #[.agg zT.cells.toArray, .int .i64 2]) ∧ Below w.heap.size w w' := by
  obtain ⟨Z, hZ, hz, hzs, hzn⟩ := zero_of zeroTr_ok zT_size
  have HS := Lib.hid hzs
  have c0 := TrV.c0 (RowC.of_blk (((Blk.new w 27 t.cells.toArray).alloc (.cells (encK k).toArray 24)).alloc (.cells Z 27)))
  rw [hf] at c0
  clear hZ hzs
  go_enter Tryd.func13, Tryd.ntmps13
  go_wp2_with fail
  go_step3
  go_wp2_with (first
    | ((with_reducible refine at_build 11 ?_); refine wpList_built rfl 27 #[] rfl zT.cells.toArray (by kernel_rfl) ?_)
    | ((with_reducible refine at_store 4 11 ?_); refine tyTr.wpList_store rfl (.tmp 4) (.tmp 11) rfl rfl (w.heap.size + 1 + 1) zT rfl rfl 27 Z (by have := Blk.new ((w.alloc (.cells t.cells.toArray 27)).alloc (.cells (encK k).toArray 24)) 27 Z; simpa only [World.size_alloc] using this) (by rw [HS.out]) ?_; intro w2 o2 b2))
  try rw [Exit.noGoto_ret]
  exact bodyPost_ret (results_cell_tmp1 rfl _ _ (w.heap.size + 1 + 1) 27 _ (0, 0) _ rfl b2 Tryd.underlying27 rfl (by rw [tyTr.arr]; kernel_rfl)) rfl ⟨rfl, ((((Below.refl w.heap.size w).alloc (Nat.le_refl _) _).alloc (by simp) _).alloc (by simp; omega) _).trans (o2.below (by simp; omega))⟩
set_option maxRecDepth 100000 in
set_option maxHeartbeats 2000000 in
theorem pApp_some (t : TrV) (k : K32) (w : World) (hR : Roots w) (hf : t.c ≠ 4294967295) :
    Calls Tryd.prog 13 #[.agg t.cells.toArray, .agg (encK k).toArray] w fun e w' => e = .returned (.tuple #[.agg (appT t k).1.cells.toArray, .int .i64 0]) ∧ Below w.heap.size w w' := by
  obtain ⟨Z, hZ, hz, hzs, hzn⟩ := zero_of zeroTr_ok zT_size
  have HR := Lib.hid hR
  have HS := Lib.hid hzs
  have c0 := TrV.c0 (RowC.of_blk (((Blk.new w 27 t.cells.toArray).alloc (.cells (encK k).toArray 24)).alloc (.cells Z 27)))
  have hd : ((t.c : Int) == 4294967295) = false := beq_eq_false_iff_ne.mpr (by omega)
  have HF := Lib.hid hf
  have kA := Lib.hid (show RowC (((w.alloc (.cells t.cells.toArray 27)).alloc (.cells (encK k).toArray 24)).alloc (.cells Z 27)) (w.heap.size + 1) 0 (encK k) from RowC.of_blk (by have := (Blk.new (w.alloc (.cells t.cells.toArray 27)) 24 (encK k).toArray).alloc (.cells Z 27); rwa [World.size_alloc] at this))
  have kT := Lib.hid (show Blk (((w.alloc (.cells t.cells.toArray 27)).alloc (.cells (encK k).toArray 24)).alloc (.cells Z 27)) w.heap.size 27 t.cells.toArray from ((Blk.new w 27 t.cells.toArray).alloc (.cells (encK k).toArray 24)).alloc (.cells Z 27))
  have kZ := Lib.hid (show Blk (((w.alloc (.cells t.cells.toArray 27)).alloc (.cells (encK k).toArray 24)).alloc (.cells Z 27)) (w.heap.size + 1 + 1) 27 Z from by have := Blk.new ((w.alloc (.cells t.cells.toArray 27)).alloc (.cells (encK k).toArray 24)) 27 Z; simpa only [World.size_alloc] using this)
  clear hZ hzs hf hR
  go_enter Tryd.func13, Tryd.ntmps13
  go_wp2_with fail
  go_step3
  go_wp2_with (first
    | ((with_reducible refine at_load 3 ?_); refine tyKc.wpList_load rfl (.tmp 3) rfl (w.heap.size + 1) 0 rfl k kA.out ?_)
    | ((with_reducible refine at_store 6 12 ?_); refine tyKc.wpList_store rfl (.tmp 6) (.tmp 12) rfl rfl (w.heap.size + 1 + 1 + 1) k rfl rfl 24 _ (blk_new (g := w.heap.size + 1 + 1 + 1) 24 _ (by simp)) rfl ?_; intro w2 o2 b2
       have A0 := Lib.hid (show PpS w Z t k w2 from ⟨(((((Below.refl w.heap.size w).alloc (Nat.le_refl _) _).alloc (by simp) _).alloc (by simp; omega) _).alloc (by simp; omega) _).trans (o2.below (by simp; omega)), o2.blk (kT.out.alloc _) (by simp <;> omega), o2.blk (kZ.out.alloc _) (by simp <;> omega), b2⟩)
       clear o2 b2))
  go_step3
  go_wp2_with fail
  clear hz hzn kA kT kZ c0 hd
  go_loopw [13] (fun i wr => ∃ (n : Nat) (hn : n ≤ 32), i = .int .i64 n ∧ Hid (∀ m, m < n → bitN t.c m = true) ∧ Hid (PpS w Z (goneT t n hn) (upK t.P k n) wr)) (fun i _ => 32 - (intOf i).toNat)
  case atStart => exact ⟨0, by omega, rfl, Lib.hid (fun m hm => by omega), A0⟩
  case round =>
    clear A0
    obtain ⟨n, hn32, rfl, HB, AP⟩ := hrel
    have hn : n < 32 := by
      obtain ⟨j, hj, h0⟩ := full_bits (n := t.c) (by have := t.hc; have := HF.out; omega)
      rcases Nat.lt_or_ge n 32 with h | h
      · exact h
      · rw [HB.out j (by omega)] at h0; cases h0
    have hd : decide ((n : Int) < 32) = true := by simp; omega
    have c0 : wr.cell? ⟨w.heap.size, 0, none⟩ = some (.int .u32 t.c) := TrV.c0 (t := goneT t n hn32) (RowC.of_blk AP.out.t)
    have hge : (0 : Int) ≤ (n : Int) := by omega
    have hi1 : (n : Int) < 32 := by omega
    obtain ⟨r, hr⟩ : ∃ r, bitN t.c n = r := ⟨_, rfl⟩
    have HC := Lib.hid (tset_any t.c n t.hc hn r hr wr)
    go_wp2_with fail
    refine HC.out.mono ?_
    rintro e wq ⟨rfl, rfl⟩
    clear HC
    cases hq : r with
    | true =>
      subst hq
      have HB1 := Lib.hid hr
      clear hr
      go_wp2_with fail
      have AS := Lib.hid AP.out.drew
      obtain ⟨pn, hpn⟩ : ∃ pn, t.P.getD n zeroKey = pn := ⟨_, rfl⟩
      have HPN := Lib.hid (show pairK pn (upK t.P k n) = upK t.P k (n + 1) by rw [← hpn]; rfl)
      have HP := Lib.hid (show ∀ (W : World) (x : K32), PpS w Z (goneT t n hn32) x W → RowC W w.heap.size (1 + n * 32) (encK pn) from fun W x h => by
        have := TrV.c1 (t := goneT t n hn32) (RowC.of_blk h.t) n hn
        rwa [goneT_get t n hn, hpn] at this)
      clear hpn
      refine wp_region_held_drew (S := fun _ => True) (by kernel_rfl) trivial ?_
      intro hS
      refine wpAnyH_take (i := 0) (v := .int .i64 n) rfl (by kernel_rfl) (by kernel_rfl) (by kernel_rfl) (fun _ _ _ h => h) (Or.inl ⟨by rfl, fun W _ => by go_simp; try with_reducible rfl⟩) hS ?_
      simp only [Act.put, List.getElem_toArray, List.getElem_cons_zero, List.setIfInBounds_toArray, List.set_cons_succ, List.set_cons_zero]
      refine wpAnyH_take (i := 1) (v := .int .i64 n) rfl (by kernel_rfl) (by kernel_rfl) (by kernel_rfl) (fun _ _ _ h => h) (Or.inl ⟨by rfl, fun W _ => by go_simp; try with_reducible rfl⟩) hS ?_
      simp only [Act.put, List.getElem_toArray, List.getElem_cons_zero, List.getElem_cons_succ, List.setIfInBounds_toArray, List.set_cons_succ, List.set_cons_zero]
      refine wpAnyH_take (i := 2) (v := .pointer (some ⟨w.heap.size, 1, none⟩)) rfl (by kernel_rfl) (by kernel_rfl) (by kernel_rfl) (fun _ _ _ h => h) (Or.inl ⟨by rfl, fun W _ => by go_simp; try with_reducible rfl⟩) hS ?_
      simp only [Act.put, List.getElem_toArray, List.getElem_cons_zero, List.getElem_cons_succ, List.setIfInBounds_toArray, List.set_cons_succ, List.set_cons_zero]
      refine wpAnyH_take (i := 3) (v := .pointer (some ⟨w.heap.size, 1 + n * 32, none⟩)) rfl (by kernel_rfl) (by kernel_rfl) (by kernel_rfl) (fun _ _ _ h => h) (Or.inl ⟨by rfl, fun W _ => by go_simp; try with_reducible rfl⟩) hS ?_
      simp only [Act.put, List.getElem_toArray, List.getElem_cons_zero, List.getElem_cons_succ, List.setIfInBounds_toArray, List.set_cons_succ, List.set_cons_zero]
      refine wpAnyH_take (i := 7) (v := .agg (encK zeroKey).toArray) rfl (by kernel_rfl) (by kernel_rfl) (by kernel_rfl) (fun _ _ _ h => h) (Or.inl ⟨by rfl, fun W _ => by go_simp; exact congrArg Array.toList lit32k⟩) hS ?_
      simp only [Act.put, List.getElem_toArray, List.getElem_cons_zero, List.getElem_cons_succ, List.setIfInBounds_toArray, List.set_cons_succ, List.set_cons_zero]
      refine wpAnyH_take (i := 9) (v := .pointer (some ⟨w.heap.size, 1, none⟩)) rfl (by kernel_rfl) (by kernel_rfl) (by kernel_rfl) (fun _ _ _ h => h) (Or.inl ⟨by rfl, fun W _ => by go_simp; try with_reducible rfl⟩) hS ?_
      simp only [Act.put, List.getElem_toArray, List.getElem_cons_zero, List.getElem_cons_succ, List.setIfInBounds_toArray, List.set_cons_succ, List.set_cons_zero]
      refine wpAnyH_ready (rs := [4, 5]) (by kernel_rfl) (by simp) ?_
      refine AllReadyH.cons rfl (fun Kq hK => ?_) (AllReadyH.cons rfl (fun Kq hK => ?_) AllReadyH.nil)
      · refine tyKc.step_load (by rfl) (.tmp 28) rfl w.heap.size (1 + n * 32) rfl pn (HP.out _ _ AS.out) ?_
        refine hK.out _ _ trivial (fun hS => ?_)
        clear hK Kq
        simp only [Act.put, List.getElem_toArray, List.getElem_cons_zero, List.getElem_cons_succ, List.setIfInBounds_toArray, List.set_cons_succ, List.set_cons_zero]
        refine wpAnyH_ready (rs := [5]) (by kernel_rfl) (by simp) ?_
        refine AllReadyH.cons rfl (fun Kq hK => ?_) AllReadyH.nil
        refine tyKc.step_load (by rfl) (.tmp 6) rfl (w.heap.size + 1 + 1 + 1) 0 rfl (upK t.P k n) (by simpa using RowC.of_blk AS.out.x) ?_
        refine hK.out _ _ trivial (fun hS => ?_)
        clear hK Kq
        simp only [Act.put, List.getElem_toArray, List.getElem_cons_zero, List.getElem_cons_succ, List.setIfInBounds_toArray, List.set_cons_succ, List.set_cons_zero]
        refine wpAnyH_ready (rs := [6]) (by kernel_rfl) (by simp) ?_
        refine AllReadyH.cons rfl (fun Kq hK => ?_) AllReadyH.nil
        go_simp
        with_reducible refine (pPair_r pn (upK t.P k n) _ (HR.out.on _ AS.out.below)).mono ?_
        rintro e x1 ⟨rfl, b1⟩
        rw [HPN.out]
        have A1 := Lib.hid (AS.out.call b1)
        refine hK.out _ _ trivial (fun hS => ?_)
        clear hK Kq b1 AS HP
        refine wpAnyH_ready (rs := [8]) (by kernel_rfl) (by simp) ?_
        refine AllReadyH.cons rfl (fun Kq hK => ?_) AllReadyH.nil
        refine tyKc.step_store rfl (.tmp 6) (.tmp 31) rfl rfl (w.heap.size + 1 + 1 + 1) (upK t.P k (n + 1)) rfl rfl 24 _ A1.out.x (by rw [tyKc.arr]) ?_
        intro w4 o4 b4
        have A4 := Lib.hid (show PpS w Z (goneT t n hn32) (upK t.P k (n + 1)) w4 from ⟨A1.out.below.trans (o4.below (by simp <;> omega)), o4.blk A1.out.t (by simp <;> omega), o4.blk A1.out.r (by simp <;> omega), b4⟩)
        refine hK.out _ _ trivial (fun hS => ?_)
        clear hK Kq o4 b4 A1
        refine wpAnyH_take (i := 10) (v := .pointer (some ⟨w.heap.size, 1 + n * 32, none⟩)) rfl (by kernel_rfl) (by kernel_rfl) (by kernel_rfl) (fun _ _ _ h => h) (Or.inl ⟨by rfl, fun W _ => by go_simp; try with_reducible rfl⟩) hS ?_
        simp only [Act.put, List.getElem_toArray, List.getElem_cons_zero, List.getElem_cons_succ, List.setIfInBounds_toArray, List.set_cons_succ, List.set_cons_zero]
        refine wpAnyH_ready (rs := [11]) (by kernel_rfl) (by simp) ?_
        refine AllReadyH.cons rfl (fun Kq hK => ?_) AllReadyH.nil
        refine tyKc.step_storeAt rfl (.tmp 34) (.tmp 32) rfl rfl w.heap.size (1 + n * 32) zeroKey rfl rfl 27 _ A4.out.t (by rw [TrV.len]; omega) ?_
        intro w5 o5 b5
        rw [TrV.set_part _ n hn, goneT_set t n hn] at b5
        have A5 := Lib.hid (show PpS w Z (goneT t (n + 1) (by omega)) (upK t.P k (n + 1)) w5 from ⟨A4.out.below.trans (o5.below (by simp)), b5, o5.blk A4.out.r (by simp <;> omega), o5.blk A4.out.x (by simp <;> omega)⟩)
        refine hK.out _ _ trivial (fun _ => ?_)
        clear hK Kq hS o5 b5 A4
        refine wpAnyH_done (by kernel_rfl) ?_ _
        go_wp2_with fail
        go_roundw
        case rel => exact ⟨n + 1, by omega, by go_num, Lib.hid (fun m hm => by
          by_cases h : m = n
          · rw [h]; exact HB1.out
          · exact HB.out m (by omega)), A5⟩
        case measure => simp [intOf]; omega
      · refine tyKc.step_load (by rfl) (.tmp 6) rfl (w.heap.size + 1 + 1 + 1) 0 rfl (upK t.P k n) (by simpa using RowC.of_blk AS.out.x) ?_
        refine hK.out _ _ trivial (fun hS => ?_)
        clear hK Kq
        simp only [Act.put, List.getElem_toArray, List.getElem_cons_zero, List.getElem_cons_succ, List.setIfInBounds_toArray, List.set_cons_succ, List.set_cons_zero]
        refine wpAnyH_ready (rs := [4]) (by kernel_rfl) (by simp) ?_
        refine AllReadyH.cons rfl (fun Kq hK => ?_) AllReadyH.nil
        refine tyKc.step_load (by rfl) (.tmp 28) rfl w.heap.size (1 + n * 32) rfl pn (HP.out _ _ AS.out) ?_
        refine hK.out _ _ trivial (fun hS => ?_)
        clear hK Kq
        simp only [Act.put, List.getElem_toArray, List.getElem_cons_zero, List.getElem_cons_succ, List.setIfInBounds_toArray, List.set_cons_succ, List.set_cons_zero]
        refine wpAnyH_ready (rs := [6]) (by kernel_rfl) (by simp) ?_
        refine AllReadyH.cons rfl (fun Kq hK => ?_) AllReadyH.nil
        go_simp
        with_reducible refine (pPair_r pn (upK t.P k n) _ (HR.out.on _ AS.out.below)).mono ?_
        rintro e x1 ⟨rfl, b1⟩
        rw [HPN.out]
        have A1 := Lib.hid (AS.out.call b1)
        refine hK.out _ _ trivial (fun hS => ?_)
        clear hK Kq b1 AS HP
        refine wpAnyH_ready (rs := [8]) (by kernel_rfl) (by simp) ?_
        refine AllReadyH.cons rfl (fun Kq hK => ?_) AllReadyH.nil
        refine tyKc.step_store rfl (.tmp 6) (.tmp 31) rfl rfl (w.heap.size + 1 + 1 + 1) (upK t.P k (n + 1)) rfl rfl 24 _ A1.out.x (by rw [tyKc.arr]) ?_
        intro w4 o4 b4
        have A4 := Lib.hid (show PpS w Z (goneT t n hn32) (upK t.P k (n + 1)) w4 from ⟨A1.out.below.trans (o4.below (by simp <;> omega)), o4.blk A1.out.t (by simp <;> omega), o4.blk A1.out.r (by simp <;> omega), b4⟩)
        refine hK.out _ _ trivial (fun hS => ?_)
        clear hK Kq o4 b4 A1
        refine wpAnyH_take (i := 10) (v := .pointer (some ⟨w.heap.size, 1 + n * 32, none⟩)) rfl (by kernel_rfl) (by kernel_rfl) (by kernel_rfl) (fun _ _ _ h => h) (Or.inl ⟨by rfl, fun W _ => by go_simp; try with_reducible rfl⟩) hS ?_
        simp only [Act.put, List.getElem_toArray, List.getElem_cons_zero, List.getElem_cons_succ, List.setIfInBounds_toArray, List.set_cons_succ, List.set_cons_zero]
        refine wpAnyH_ready (rs := [11]) (by kernel_rfl) (by simp) ?_
        refine AllReadyH.cons rfl (fun Kq hK => ?_) AllReadyH.nil
        refine tyKc.step_storeAt rfl (.tmp 34) (.tmp 32) rfl rfl w.heap.size (1 + n * 32) zeroKey rfl rfl 27 _ A4.out.t (by rw [TrV.len]; omega) ?_
        intro w5 o5 b5
        rw [TrV.set_part _ n hn, goneT_set t n hn] at b5
        have A5 := Lib.hid (show PpS w Z (goneT t (n + 1) (by omega)) (upK t.P k (n + 1)) w5 from ⟨A4.out.below.trans (o5.below (by simp)), b5, o5.blk A4.out.r (by simp <;> omega), o5.blk A4.out.x (by simp <;> omega)⟩)
        refine hK.out _ _ trivial (fun _ => ?_)
        clear hK Kq hS o5 b5 A4
        refine wpAnyH_done (by kernel_rfl) ?_ _
        go_wp2_with fail
        go_roundw
        case rel => exact ⟨n + 1, by omega, by go_num, Lib.hid (fun m hm => by
          by_cases h : m = n
          · rw [h]; exact HB1.out
          · exact HB.out m (by omega)), A5⟩
        case measure => simp [intOf]; omega
    | false =>
      subst hq
      have HB0 := Lib.hid hr
      clear hr
      have AS := Lib.hid AP.out
      have hadd : IntKind.u32.wrap ((t.c : Int) + 1) = (t.c : Int) + 1 := by have := t.hc; have := HF.out; rw [IntKind.wrap_u32']; omega
      have HC1 := Lib.hid (show t.c + 1 < 4294967296 by have := t.hc; have := HF.out; omega)
      go_wp2_with (first
        | ((with_reducible refine at_load 6 ?_); refine tyKc.wpList_load rfl (.tmp 6) rfl (w.heap.size + 1 + 1 + 1) 0 rfl (upK t.P k n) (by simpa using RowC.of_blk AS.out.x) ?_)
        | ((with_reducible refine at_store 19 17 ?_); refine tyKc.wpList_storeAt rfl (.tmp 19) (.tmp 17) rfl rfl w.heap.size (1 + n * 32) (upK t.P k n) rfl rfl 27 _ AS.out.t (by rw [TrV.len]; omega) ?_; intro w5 o5 b5; rw [TrV.set_part _ n hn] at b5
           have A5 := Lib.hid (show PpS w Z ((goneT t n (by omega)).setP n (upK t.P k n)) (upK t.P k n) w5 from ⟨AS.out.below.trans (o5.below (by simp)), b5, o5.blk AS.out.r (by simp <;> omega), o5.blk AS.out.x (by simp <;> omega)⟩)
           have c5 : w5.cell? ⟨w.heap.size, 0, none⟩ = some (.int .u32 t.c) := TrV.c0 (t := (goneT t n (by omega)).setP n (upK t.P k n)) (RowC.of_blk b5)
           clear o5 b5 AS c0)
        | ((with_reducible refine at_store 39 38 ?_); refine wpList_store_cell rfl 22 (.tmp 39) (.tmp 38) rfl rfl w.heap.size 0 (.int .u32 (t.c + 1 : Nat)) rfl (by congr 1) rfl 27 _ A5.out.t (by rw [tyTr.arr]; omega) (by kernel_rfl) ?_; intro w6 o6 b6; rw [TrV.set_count _ (t.c + 1) HC1.out] at b6
           have A6 := Lib.hid (show PpS w Z (((goneT t n (by omega)).setP n (upK t.P k n)).setC (t.c + 1) HC1.out) (upK t.P k n) w6 from ⟨A5.out.below.trans (o6.below (by simp)), b6, o6.blk A5.out.r (by simp <;> omega), o6.blk A5.out.x (by simp <;> omega)⟩)
           clear o6 b6 A5)
        | ((with_reducible refine at_load 2 ?_); refine tyTr.wpList_load rfl (.tmp 2) rfl w.heap.size 0 rfl (((goneT t n (by omega)).setP n (upK t.P k n)).setC (t.c + 1) HC1.out) (by simpa using RowC.of_blk A6.out.t) ?_)
        | ((with_reducible refine at_store 4 40 ?_); refine tyTr.wpList_store rfl (.tmp 4) (.tmp 40) rfl rfl (w.heap.size + 1 + 1) (((goneT t n (by omega)).setP n (upK t.P k n)).setC (t.c + 1) HC1.out) rfl rfl 27 Z A6.out.r (by rw [HS.out]) ?_; intro w7 o7 b7))
      try rw [Exit.noGoto_ret]
      refine bodyPost_ret (results_cell_tmp1 rfl _ _ (w.heap.size + 1 + 1) 27 _ (0, 0) _ rfl b7 Tryd.underlying27 rfl (by rw [tyTr.arr]; kernel_rfl)) rfl ⟨?_, A6.out.below.trans (o7.below (by simp; omega))⟩
      have he : (appT t k).1 = ((goneT t n (by omega)).setP n (upK t.P k n)).setC (t.c + 1) HC1.out := by
        unfold appT
        rw [dif_neg HF.out]
        refine TrV.ext' ?_
        show TreeV.mk (t.c + 1) (carryV pairK zeroKey t.c 32 0 t.P k) = TreeV.mk (t.c + 1) ((List.replicate n zeroKey ++ t.P.drop n).set n (upK t.P k n))
        rw [carry_eq t k n hn HB.out HB0.out]
      rw [he]
      rfl
theorem pApp_r : AppTOk := by
  intro t k w hR
  by_cases h : t.c = 4294967295
  · rw [appT_full k h]
    exact pApp_full t k w h
  · rw [appT_some k h]
    exact pApp_some t k w hR h
end Go.Proofs.YtfmidmhbnpincaaDoor
