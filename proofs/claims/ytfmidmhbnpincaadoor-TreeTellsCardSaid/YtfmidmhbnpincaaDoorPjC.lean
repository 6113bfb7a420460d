/- The project's Root. Written by genPC.py. -/
import Derived.Test.YtfmidmhbnpincaaDoorPjA
namespace Go.Proofs.YtfmidmhbnpincaaDoor
open Go.RowKit
/-- thirty-two keys, as one value -/
def P32 : Type := {l : List K32 // l.length = 32}
def encP (x : P32) : List Value := cellsOf encK x.1
theorem tyPa : CellTy Tryd.prog 25 encP 1024 := ⟨by kernel_rfl, fun x => by unfold encP; rw [cellsOf_len encK_len, x.2], fun x => cellsOf_all1 encK_one _, Tryd.isAgg25⟩
theorem idx_run (l : List K32) (hl : l.length = 32) (i : Nat) (hi : i < 32) (V : World) :
    (Instr.index 25 (.agg (cellsOf encK l).toArray) (.int .i64 (i : Int))).run Tryd.prog V = .ok (.agg (encK (l.getD i zeroKey)).toArray) V := by
  have hp := run_part_arr V Tryd.underlying24 (show Tryd.prog.cellsOf 24 = 32 by kernel_rfl) (cellsOf encK l).toArray (i * 32)
  have hi2 : i < l.length := by omega
  rw [cells_extract l i hi2, ← encK_arr] at hp
  have hs := tyKc.sizeOf V
  have hg : l.getD i zeroKey = l[i] := by rw [List.getD_eq_getElem?_getD, List.getElem?_eq_getElem hi2]; rfl
  rw [hg]
  simp [Instr.index, asIntOf, run_underlying Tryd.underlying25, hs, hp, hi]
/-- what lies there while Root is at work -/
structure RuS (w : World) (ge gx : Nat) (t : TrV) (x : K32) (W : World) : Prop where
  below : Below w.heap.size w W
  t : Blk W w.heap.size 27 t.cells.toArray
  r : ∃ k : K32, Blk W (w.heap.size + 1) 24 (encK k).toArray
  e : Blk W ge 40 (mkE 32 (by omega)).cells.toArray
  x : Blk W gx 24 (encK x).toArray
  hge : w.heap.size + 1 < ge
  hgx : ge < gx
theorem RuS.call {w W W' : World} {ge gx : Nat} {t : TrV} {x : K32} (h : RuS w ge gx t x W) (hb : Below W.heap.size W W') : RuS w ge gx t x W' :=
  ⟨h.below.trans (hb.mono h.below.size), below_blk hb h.t h.t.lt, h.r.imp fun _ k => below_blk hb k k.lt, below_blk hb h.e h.e.lt, below_blk hb h.x h.x.lt, h.hge, h.hgx⟩
theorem RuS.drew {w W : World} {ge gx : Nat} {t : TrV} {x : K32} (h : RuS w ge gx t x W) : RuS w ge gx t x W.drew := ⟨h.below.drew, h.t, h.r, h.e, h.x, h.hge, h.hgx⟩
theorem RuS.put {w W W' : World} {ge gx : Nat} {t : TrV} {x y : K32} (h : RuS w ge gx t x W) (o : Only [gx] W W') (b : Blk W' gx 24 (encK y).toArray) : RuS w ge gx t y W' := by
  have hg := h.hge
  have hx := h.hgx
  exact ⟨h.below.trans (o.below (by simp <;> omega)), o.blk h.t (by simp <;> omega), h.r.imp fun _ k => o.blk k (by simp <;> omega), o.blk h.e (by simp <;> omega), b, h.hge, h.hgx⟩
/-- a store into a block that was just made -/
theorem RuS.fresh {w W W' : World} {ge gx : Nat} {t : TrV} {x : K32} {ob : Obj} (h : RuS w ge gx t x W) (o : Only [W.heap.size] (W.alloc ob) W') : RuS w ge gx t x W' :=
  h.call (((Below.refl _ _).alloc (Nat.le_refl _) ob).trans (o.below (by simp)))
set_option maxRecDepth 100000 in
set_option maxHeartbeats 2000000 in
theorem pRoot_r : RotTOk := by
  intro t w hR
  have HR := Lib.hid hR
  obtain ⟨Z, hZ, hz, hzs, hzn⟩ := zero_of zeroE_ok zE_size
  have HS := Lib.hid hzs
  have kT := Lib.hid (show ∀ cs, Blk ((w.alloc (.cells t.cells.toArray 27)).alloc (.cells cs 24)) w.heap.size 27 t.cells.toArray from fun cs => (Blk.new w 27 t.cells.toArray).alloc _)
  have kR := Lib.hid (show Blk ((w.alloc (.cells t.cells.toArray 27)).alloc (.cells (encK zeroKey).toArray 24)) (w.heap.size + 1) 24 (encK zeroKey).toArray from blk_new (g := w.heap.size + 1) (w := w.alloc (.cells t.cells.toArray 27)) 24 (encK zeroKey).toArray (by simp))
  clear hZ hzs hR
  go_enter Tryd.func15, Tryd.ntmps15
  go_wp2_with fail
  refine (pEmpty_r _ (HR.out.on _ (((Below.refl w.heap.size w).alloc (Nat.le_refl _) _).alloc (by simp) _))).mono ?_
  rintro e w3 ⟨rfl, b3⟩
  have T3 := Lib.hid (below_blk b3 (kT.out _) (kT.out _).lt)
  have R3 := Lib.hid (show Blk w3 (w.heap.size + 1) 24 (encK zeroKey).toArray from below_blk b3 kR.out kR.out.lt)
  have B3 := Lib.hid (show Below w.heap.size w w3 from (((Below.refl w.heap.size w).alloc (Nat.le_refl _) _).alloc (by simp) _).trans (b3.mono (by simp; omega)))
  clear b3 kT kR
  go_wp2_with (first
    | ((with_reducible refine at_store 3 7 ?_); refine tyE.wpList_store rfl (.tmp 3) (.tmp 7) rfl rfl w3.heap.size (mkE 32 (by omega)) rfl rfl 40 Z (Blk.new w3 40 Z) (by rw [HS.out]) ?_; intro w4 o4 b4
       have R0 := Lib.hid (show RuS w w3.heap.size w4.heap.size t (rtK t 0) (w4.alloc (.cells (encK zeroKey).toArray 24)) from ⟨B3.out.trans ((((Below.refl _ _).alloc B3.out.size _).trans (o4.below (by have := B3.out.size; simp <;> omega))).alloc (by have := b4.lt; have := B3.out.size; omega) _), (o4.blk (T3.out.alloc _) (by have := T3.out.lt; simp <;> omega)).alloc _, ⟨zeroKey, (o4.blk (R3.out.alloc _) (by have := R3.out.lt; simp <;> omega)).alloc _⟩, b4.alloc _, blk_new (g := w4.heap.size) 24 _ rfl, R3.out.lt, b4.lt⟩)
       clear o4 b4)
    | ((with_reducible refine at_load 8 ?_); refine tyPa.wpList_load rfl (.tmp 8) rfl w.heap.size 1 rfl ⟨t.P, t.hP⟩ (RowC.of_blk R0.out.t).tail ?_))
  obtain ⟨ge, hge⟩ : ∃ ge, w3.heap.size = ge := ⟨_, rfl⟩
  obtain ⟨gx, hgx⟩ : ∃ gx, w4.heap.size = gx := ⟨_, rfl⟩
  rw [hge, hgx] at R0
  rw [hge, hgx]
  rw [show encP ⟨t.P, t.hP⟩ = cellsOf encK t.P from rfl]
  clear hge hgx hz hzn T3 R3 B3
  go_loopw [10] (fun i wr => ∃ n : Nat, n ≤ 32 ∧ i = .int .i64 n ∧ Hid (RuS w ge gx t (rtK t n) wr)) (fun i _ => 32 - (intOf i).toNat)
  case atStart => exact ⟨0, by omega, rfl, R0⟩
  case round =>
    clear R0
    obtain ⟨n, hn, rfl, AP⟩ := hrel
    by_cases hlt : n < 32
    · have hd : decide ((n : Int) < 32) = true := by simp; omega
      have hge : (0 : Int) ≤ (n : Int) := by omega
      have hi1 : (n : Int) < 32 := by omega
      have hi2 : (n : Int) < 33 := by omega
      have hix := fun V => idx_run t.P t.hP n hlt V
      obtain ⟨pn, hpn⟩ : ∃ pn, t.P.getD n zeroKey = pn := ⟨_, rfl⟩
      rw [hpn] at hix
      obtain ⟨r, hr⟩ : ∃ r, bitN t.c n = r := ⟨_, rfl⟩
      have HC := Lib.hid (fun W => tset_any t.c n t.hc hlt r hr W)
      have HN := Lib.hid (show (if r = true then pairK pn (rtK t n) else pairK (rtK t n) (empK n)) = rtK t (n + 1) by
        rw [← hpn, ← hr]
        rfl)
      clear hr hpn
      obtain ⟨gp, hgp⟩ : ∃ gp, wr.heap.size = gp := ⟨_, rfl⟩
      have HG := Lib.hid hgp
      clear hgp
      go_wp2_with (first
        | ((with_reducible refine at_store 6 13 ?_); refine tyKc.wpList_store rfl (.tmp 6) (.tmp 13) rfl rfl wr.heap.size pn rfl rfl 24 _ (Blk.new wr 24 _) rfl ?_; intro w5 o5 b5
           have A5 := Lib.hid (AP.out.fresh o5)
           have P5 := Lib.hid b5
           have c0 : w5.cell? ⟨w.heap.size, 0, none⟩ = some (.int .u32 t.c) := TrV.c0 (RowC.of_blk A5.out.t)
           clear o5 b5 AP hix))
      refine (HC.out _).mono ?_
      rintro e wq ⟨rfl, rfl⟩
      clear HC
      cases hq : r with
      | true =>
        subst hq
        have HPN := Lib.hid (show pairK pn (rtK t n) = rtK t (n + 1) from by have := HN.out; rwa [if_pos rfl] at this)
        clear HN
        go_wp2_with (first
          | ((with_reducible refine at_load 6 ?_); refine tyKc.wpList_load rfl (.tmp 6) rfl wr.heap.size 0 rfl pn (by simpa using RowC.of_blk P5.out) ?_)
          | ((with_reducible refine at_load 4 ?_); refine tyKc.wpList_load rfl (.tmp 4) rfl gx 0 rfl (rtK t n) (by simpa using RowC.of_blk A5.out.x) ?_))
        refine (pPair_r pn (rtK t n) _ (HR.out.on _ A5.out.below)).mono ?_
        rintro e x1 ⟨rfl, b1⟩
        rw [HPN.out]
        have A6 := Lib.hid (A5.out.call b1)
        clear b1 A5 P5 c0
        go_wp2_with ((with_reducible refine at_store 4 20 ?_); refine tyKc.wpList_store rfl (.tmp 4) (.tmp 20) rfl rfl gx (rtK t (n + 1)) rfl rfl 24 _ A6.out.x (by rw [tyKc.arr]) ?_; intro w7 o7 b7
                     have A7 := Lib.hid (A6.out.put o7 b7)
                     clear o7 b7)
        go_roundw
        case rel => exact ⟨n + 1, by omega, by go_num, A7⟩
        case measure => simp [intOf]; omega
      | false =>
        subst hq
        have HPN := Lib.hid (show pairK (rtK t n) (empK n) = rtK t (n + 1) from by have := HN.out; rwa [if_neg (by decide)] at this)
        have HP := Lib.hid (show ∀ (W : World) (x : K32), RuS w ge gx t x W → RowC W ge (n * 32) (encK (empK n)) from fun W x h => mkE32_at hlt h.e)
        clear HN P5
        go_wp2_with fail
        have AS := Lib.hid A5.out.drew
        refine wp_region_held_drew (S := fun W => RowC W ge (n * 32) (encK (empK n))) (by kernel_rfl) (HP.out _ _ AS.out) ?_
        intro hS
        refine wpAnyH_take (i := 1) (v := .int .i64 n) rfl (by kernel_rfl) (by kernel_rfl) (by kernel_rfl) (fun _ _ _ h => h) (Or.inl ⟨by rfl, fun W _ => by go_simp; try with_reducible rfl⟩) hS ?_
        simp only [Act.put, List.getElem_toArray, List.getElem_cons_zero, List.getElem_cons_succ, List.setIfInBounds_toArray, List.set_cons_succ, List.set_cons_zero]
        refine wpAnyH_take (i := 2) (v := .pointer (some ⟨ge, n * 32, none⟩)) rfl (by kernel_rfl) (by kernel_rfl) (by kernel_rfl) (fun _ _ _ h => h) (Or.inl ⟨by rfl, fun W _ => by go_simp; try with_reducible rfl⟩) hS ?_
        simp only [Act.put, List.getElem_toArray, List.getElem_cons_zero, List.getElem_cons_succ, List.setIfInBounds_toArray, List.set_cons_succ, List.set_cons_zero]
        refine wpAnyH_take (i := 3) (v := .agg (encK (empK n)).toArray) rfl (by kernel_rfl) (by kernel_rfl) (by kernel_rfl) (fun _ _ _ h => h) (tyKc.yieldsIf_load (by rfl) (.tmp 23) rfl (ge) (n * 32) rfl (empK n) (fun _ h => h)) hS ?_
        simp only [Act.put, List.getElem_toArray, List.getElem_cons_zero, List.getElem_cons_succ, List.setIfInBounds_toArray, List.set_cons_succ, List.set_cons_zero]
        refine wpAnyH_ready (rs := [0]) (by kernel_rfl) (by simp) ?_
        refine AllReadyH.cons rfl (fun Kq hK => ?_) AllReadyH.nil
        refine tyKc.step_load (by rfl) (.tmp 4) rfl gx 0 rfl (rtK t n) (by simpa using RowC.of_blk AS.out.x) ?_
        refine hK.out _ _ hS (fun hS => ?_)
        clear hK Kq
        simp only [Act.put, List.getElem_toArray, List.getElem_cons_zero, List.setIfInBounds_toArray, List.set_cons_succ, List.set_cons_zero]
        refine wpAnyH_ready (rs := [4]) (by kernel_rfl) (by simp) ?_
        refine AllReadyH.cons rfl (fun Kq hK => ?_) AllReadyH.nil
        go_simp
        with_reducible refine (pPair_r (rtK t n) (empK n) _ (HR.out.on _ AS.out.below)).mono ?_
        rintro e x1 ⟨rfl, b1⟩
        rw [HPN.out]
        have A1 := Lib.hid (AS.out.call b1)
        refine hK.out _ _ (HP.out _ _ A1.out) (fun hS => ?_)
        clear hK Kq b1 AS
        refine wpAnyH_ready (rs := [5]) (by kernel_rfl) (by simp) ?_
        refine AllReadyH.cons rfl (fun Kq hK => ?_) AllReadyH.nil
        refine tyKc.step_store rfl (.tmp 4) (.tmp 25) rfl rfl gx (rtK t (n + 1)) rfl rfl 24 _ A1.out.x (by rw [tyKc.arr]) ?_
        intro w4 o4 b4
        have A4 := Lib.hid (A1.out.put o4 b4)
        refine hK.out _ _ (HP.out _ _ A4.out) (fun _ => ?_)
        clear hK Kq hS o4 b4 A1 HP
        refine wpAnyH_done (by kernel_rfl) ?_ _
        go_wp2_with fail
        go_roundw
        case rel => exact ⟨n + 1, by omega, by go_num, A4⟩
        case measure => simp [intOf]; omega
    · obtain rfl : n = 32 := by omega
      have R9 := Lib.hid AP.out
      obtain ⟨kr, kb⟩ := AP.out.r
      have KR := Lib.hid kb
      clear AP kb
      go_wp2_with (first
        | ((with_reducible refine at_load 4 ?_); refine tyKc.wpList_load rfl (.tmp 4) rfl gx 0 rfl (rtK t 32) (by simpa using RowC.of_blk R9.out.x) ?_)
        | ((with_reducible refine at_store 2 27 ?_); refine tyKc.wpList_store rfl (.tmp 2) (.tmp 27) rfl rfl (w.heap.size + 1) (rtK t 32) rfl rfl 24 _ KR.out (by rw [tyKc.arr]) ?_; intro w7 o7 b7))
      exact bodyPost_ret (results_cell1 rfl _ _ (w.heap.size + 1) 24 _ (0, 0) _ rfl b7 Tryd.underlying24 rfl (by rw [tyKc.arr]; kernel_rfl)) rfl ⟨rfl, R9.out.below.trans (o7.below (by simp))⟩
end Go.Proofs.YtfmidmhbnpincaaDoor
