/- The document's Root. Written by genTH.py. -/
import Derived.Test.YtfmidmhbnpincaaDoorTreeF
namespace Go.Proofs.YtfmidmhbnpincaaDoor
open Go.RowKit
abbrev rtK (t : TrV) (i : Nat) : K32 := rootN pairK zeroKey t.V i
/-- what lies there while Root is at work -/
structure RoS (w : World) (ge : Nat) (t : TrV) (x : K32) (W : World) : Prop where
  below : Below w.heap.size w W
  t : Blk W w.heap.size 33 t.cells.toArray
  r : ∃ k : K32, Blk W (w.heap.size + 1) 24 (encK k).toArray
  x : Blk W (w.heap.size + 1 + 1) 24 (encK x).toArray
  e : Blk W ge 40 (mkE 32 (by omega)).cells.toArray
  ge : w.heap.size + 1 + 1 < ge
theorem RoS.call {w W W' : World} {ge : Nat} {t : TrV} {x : K32} (h : RoS w ge t x W) (hb : Below W.heap.size W W') : RoS w ge t x W' :=
  ⟨h.below.trans (hb.mono h.below.size), below_blk hb h.t h.t.lt, h.r.imp fun _ k => below_blk hb k k.lt, below_blk hb h.x h.x.lt, below_blk hb h.e h.e.lt, h.ge⟩
theorem RoS.drew {w W : World} {ge : Nat} {t : TrV} {x : K32} (h : RoS w ge t x W) : RoS w ge t x W.drew := ⟨h.below.drew, h.t, h.r, h.x, h.e, h.ge⟩
theorem RoS.put {w W W' : World} {ge : Nat} {t : TrV} {x y : K32} (h : RoS w ge t x W) (o : Only [w.heap.size + 1 + 1] W W') (b : Blk W' (w.heap.size + 1 + 1) 24 (encK y).toArray) : RoS w ge t y W' := by
  have hg := h.ge
  exact ⟨h.below.trans (o.below (by simp <;> omega)), o.blk h.t (by simp <;> omega), h.r.imp fun _ k => o.blk k (by simp <;> omega), b, o.blk h.e (by simp <;> omega), h.ge⟩
theorem mkE32_at {w : World} {g k : Nat} (hk : k < 32) (h : Blk w g 40 (mkE 32 (by omega)).cells.toArray) : RowC w g (k * 32) (encK (empK k)) := by
  have h1 := (mkE 32 (by omega)).at (RowC.of_blk h) k (by omega)
  have h2 : (mkE 32 (by omega)).l[k]'(by rw [(mkE 32 (by omega)).h]; omega) = empK k := by
    apply Option.some.inj
    rw [← List.getElem?_eq_getElem]
    show (List.map empK (List.range (32 + 1)) ++ List.replicate (32 - 32) zeroKey)[k]? = _
    rw [List.getElem?_append_left (by simp; omega), List.getElem?_map, List.getElem?_range (by omega)]
    rfl
  rwa [h2] at h1
set_option maxRecDepth 100000 in
set_option maxHeartbeats 2000000 in
theorem rRoot_r (t : TrV) (w : World) :
    Calls Tryd.prog 16 #[.agg t.cells.toArray] w fun e w' => e = .returned (.agg (encK (rtK t 32)).toArray) ∧ Below w.heap.size w w' := by
  obtain ⟨Z, hZ, hz, hzs, hzn⟩ := zero_of zeroE_ok zE_size
  have HS := Lib.hid hzs
  have kT := Lib.hid (show ∀ cs, Blk ((w.alloc (.cells t.cells.toArray 33)).alloc (.cells cs 24)) w.heap.size 33 t.cells.toArray from fun cs => (Blk.new w 33 t.cells.toArray).alloc _)
  clear hZ hzs
  go_enter Tryd.func16, Tryd.ntmps16
  go_wp2_with (first
    | ((with_reducible refine at_build 6 ?_); refine wpList_built rfl 24 #[] rfl (encK zeroKey).toArray (by kernel_rfl) ?_)
    | ((with_reducible refine at_store 3 6 ?_); refine tyKc.wpList_store rfl (.tmp 3) (.tmp 6) rfl rfl (w.heap.size + 1 + 1) zeroKey rfl rfl 24 _ (blk_new (g := w.heap.size + 1 + 1) 24 _ (by simp)) rfl ?_; intro w2 o2 b2
       have T2 := Lib.hid (o2.blk ((kT.out _).alloc _) (by simp <;> omega))
       have R2 := Lib.hid (show ∃ k : K32, Blk w2 (w.heap.size + 1) 24 (encK k).toArray from ⟨zeroKey, o2.blk ((blk_new (g := w.heap.size + 1) (w := w.alloc (.cells t.cells.toArray 33)) 24 (encK zeroKey).toArray (by simp)).alloc _) (by simp <;> omega)⟩)
       have X2 := Lib.hid b2
       have B2 := Lib.hid (((((Below.refl w.heap.size w).alloc (Nat.le_refl _) _).alloc (by simp) _).alloc (by simp; omega) _).trans (o2.below (by simp; omega)))
       clear o2 b2))
  refine (rEmpty_r _).mono ?_
  rintro e w3 ⟨rfl, b3⟩
  have T3 := Lib.hid (below_blk b3 T2.out T2.out.lt)
  have R3 := Lib.hid (R2.out.imp fun _ k => below_blk b3 k k.lt)
  have X3 := Lib.hid (below_blk b3 X2.out X2.out.lt)
  have B3 := Lib.hid (B2.out.trans (b3.mono B2.out.size))
  clear b3 T2 R2 X2 B2
  go_wp2_with ((with_reducible refine at_store 4 7 ?_); refine tyE.wpList_store rfl (.tmp 4) (.tmp 7) rfl rfl w3.heap.size (mkE 32 (by omega)) rfl rfl 40 Z (Blk.new w3 40 Z) (by rw [HS.out]) ?_; intro w4 o4 b4)
  have R0 := Lib.hid (show RoS w w3.heap.size t (rtK t 0) w4 from ⟨B3.out.trans (((Below.refl _ _).alloc B3.out.size _).trans (o4.below (by have := B3.out.size; simp <;> omega))), o4.blk (T3.out.alloc _) (by have := T3.out.lt; simp <;> omega), R3.out.imp fun _ k => o4.blk (k.alloc _) (by have := k.lt; simp <;> omega), o4.blk (X3.out.alloc _) (by have := X3.out.lt; simp <;> omega), b4, X3.out.lt⟩)
  obtain ⟨ge, hge⟩ : ∃ ge, w3.heap.size = ge := ⟨_, rfl⟩
  rw [hge] at R0 ⊢
  clear hge o4 b4 hz hzn kT T3 R3 X3 B3
  go_loopw [5] (fun i wr => ∃ n : Nat, n ≤ 32 ∧ i = .int .i64 n ∧ Hid (RoS w ge t (rtK t n) wr)) (fun i _ => 32 - (intOf i).toNat)
  case atStart => exact ⟨0, by omega, rfl, R0⟩
  case round =>
    clear R0
    obtain ⟨n, hn, rfl, AP⟩ := hrel
    by_cases hlt : n < 32
    · have hd : decide ((n : Int) < 32) = true := by simp; omega
      have c0 : wr.cell? ⟨w.heap.size, 0, none⟩ = some (.int .u32 t.c) := TrV.c0 (RowC.of_blk AP.out.t)
      have hbt := bit_test t.c n t.hc
      have hge : (0 : Int) ≤ (n : Int) := by omega
      have hi1 : (n : Int) < 32 := by omega
      have hi2 : (n : Int) < 33 := by omega
      cases hb : bitN t.c n with
      | true =>
        rw [hb] at hbt
        obtain ⟨pn, hpn⟩ : ∃ pn, t.P.getD n zeroKey = pn := ⟨_, rfl⟩
        have HPN := Lib.hid (show pairK pn (rtK t n) = rtK t (n + 1) by
          rw [← hpn]
          show _ = if bitN t.c n then _ else _
          rw [hb, if_pos rfl]
          rfl)
        have HP := Lib.hid (show ∀ (W : World) (x : K32), RoS w ge t x W → RowC W w.heap.size (1 + n * 32) (encK pn) from fun W x h => by
          have := TrV.c1 (RowC.of_blk h.t) n hlt
          rw [← hpn, List.getD_eq_getElem?_getD, List.getElem?_eq_getElem (by rw [t.hP]; exact hlt)]
          exact this)
        clear hpn hb
        go_wp2_with fail
        have AS := Lib.hid AP.out.drew
        refine wp_region_held_drew (S := fun W => RowC W w.heap.size (1 + n * 32) (encK pn)) (by kernel_rfl) (HP.out _ _ AS.out) ?_
        intro hS
        refine wpAnyH_take (i := 0) (v := .int .i64 n) rfl (by kernel_rfl) (by kernel_rfl) (by kernel_rfl) (fun _ _ _ h => h) (Or.inl ⟨by rfl, fun W _ => by go_simp; try with_reducible rfl⟩) hS ?_
        simp only [Act.put, List.getElem_toArray, List.getElem_cons_zero, List.setIfInBounds_toArray, List.set_cons_succ, List.set_cons_zero]
        refine wpAnyH_take (i := 1) (v := .pointer (some ⟨w.heap.size, 1, none⟩)) rfl (by kernel_rfl) (by kernel_rfl) (by kernel_rfl) (fun _ _ _ h => h) (Or.inl ⟨by rfl, fun W _ => by go_simp; try with_reducible rfl⟩) hS ?_
        simp only [Act.put, List.getElem_toArray, List.getElem_cons_zero, List.getElem_cons_succ, List.setIfInBounds_toArray, List.set_cons_succ, List.set_cons_zero]
        refine wpAnyH_take (i := 2) (v := .pointer (some ⟨w.heap.size, 1 + n * 32, none⟩)) rfl (by kernel_rfl) (by kernel_rfl) (by kernel_rfl) (fun _ _ _ h => h) (Or.inl ⟨by rfl, fun W _ => by go_simp; try with_reducible rfl⟩) hS ?_
        simp only [Act.put, List.getElem_toArray, List.getElem_cons_zero, List.getElem_cons_succ, List.setIfInBounds_toArray, List.set_cons_succ, List.set_cons_zero]
        refine wpAnyH_take (i := 3) (v := .agg (encK pn).toArray) rfl (by kernel_rfl) (by kernel_rfl) (by kernel_rfl) (fun _ _ _ h => h) (tyKc.yieldsIf_load (by rfl) (.tmp 20) rfl (w.heap.size) (1 + n * 32) rfl (pn) (fun _ h => h)) hS ?_
        simp only [Act.put, List.getElem_toArray, List.getElem_cons_zero, List.getElem_cons_succ, List.setIfInBounds_toArray, List.set_cons_succ, List.set_cons_zero]
        refine wpAnyH_ready (rs := [4]) (by kernel_rfl) (by simp) ?_
        refine AllReadyH.cons rfl (fun Kq hK => ?_) AllReadyH.nil
        refine tyKc.step_load (by rfl) (.tmp 3) rfl (w.heap.size + 1 + 1) 0 rfl (rtK t n) (by simpa using RowC.of_blk AS.out.x) ?_
        refine hK.out _ _ hS (fun hS => ?_)
        clear hK Kq
        simp only [Act.put, List.getElem_toArray, List.getElem_cons_zero, List.getElem_cons_succ, List.setIfInBounds_toArray, List.set_cons_succ, List.set_cons_zero]
        refine wpAnyH_ready (rs := [5]) (by kernel_rfl) (by simp) ?_
        refine AllReadyH.cons rfl (fun Kq hK => ?_) AllReadyH.nil
        go_simp
        with_reducible refine (rPair_r pn (rtK t n) _).mono ?_
        rintro e x1 ⟨rfl, b1⟩
        rw [HPN.out]
        have A1 := Lib.hid (AS.out.call b1)
        refine hK.out _ _ (HP.out _ _ A1.out) (fun hS => ?_)
        clear hK Kq b1 AS
        refine wpAnyH_ready (rs := [6]) (by kernel_rfl) (by simp) ?_
        refine AllReadyH.cons rfl (fun Kq hK => ?_) AllReadyH.nil
        refine tyKc.step_store rfl (.tmp 3) (.tmp 23) rfl rfl (w.heap.size + 1 + 1) (rtK t (n + 1)) rfl rfl 24 _ A1.out.x (by rw [tyKc.arr]) ?_
        intro w4 o4 b4
        have A4 := Lib.hid (A1.out.put o4 b4)
        refine hK.out _ _ (HP.out _ _ A4.out) (fun _ => ?_)
        clear hK Kq hS o4 b4 A1 HP
        refine wpAnyH_done (by kernel_rfl) ?_ _
        go_wp2_with fail
        go_roundw
        case rel => exact ⟨n + 1, by omega, by go_num, A4⟩
        case measure => simp [intOf]; omega
      | false =>
        rw [hb] at hbt
        have HPN := Lib.hid (show pairK (rtK t n) (empK n) = rtK t (n + 1) by
          show _ = if bitN t.c n then _ else _
          rw [hb, if_neg (by decide)])
        have HP := Lib.hid (show ∀ (W : World) (x : K32), RoS w ge t x W → RowC W ge (n * 32) (encK (empK n)) from fun W x h => mkE32_at hlt h.e)
        clear hb
        go_wp2_with fail
        have AS := Lib.hid AP.out.drew
        refine wp_region_held_drew (S := fun W => RowC W ge (n * 32) (encK (empK n))) (by kernel_rfl) (HP.out _ _ AS.out) ?_
        intro hS
        refine wpAnyH_take (i := 1) (v := .int .i64 n) rfl (by kernel_rfl) (by kernel_rfl) (by kernel_rfl) (fun _ _ _ h => h) (Or.inl ⟨by rfl, fun W _ => by go_simp; try with_reducible rfl⟩) hS ?_
        simp only [Act.put, List.getElem_toArray, List.getElem_cons_zero, List.getElem_cons_succ, List.setIfInBounds_toArray, List.set_cons_succ, List.set_cons_zero]
        refine wpAnyH_take (i := 2) (v := .pointer (some ⟨ge, n * 32, none⟩)) rfl (by kernel_rfl) (by kernel_rfl) (by kernel_rfl) (fun _ _ _ h => h) (Or.inl ⟨by rfl, fun W _ => by go_simp; try with_reducible rfl⟩) hS ?_
        simp only [Act.put, List.getElem_toArray, List.getElem_cons_zero, List.getElem_cons_succ, List.setIfInBounds_toArray, List.set_cons_succ, List.set_cons_zero]
        refine wpAnyH_take (i := 3) (v := .agg (encK (empK n)).toArray) rfl (by kernel_rfl) (by kernel_rfl) (by kernel_rfl) (fun _ _ _ h => h) (tyKc.yieldsIf_load (by rfl) (.tmp 26) rfl (ge) (n * 32) rfl (empK n) (fun _ h => h)) hS ?_
        simp only [Act.put, List.getElem_toArray, List.getElem_cons_zero, List.getElem_cons_succ, List.setIfInBounds_toArray, List.set_cons_succ, List.set_cons_zero]
        refine wpAnyH_ready (rs := [0]) (by kernel_rfl) (by simp) ?_
        refine AllReadyH.cons rfl (fun Kq hK => ?_) AllReadyH.nil
        refine tyKc.step_load (by rfl) (.tmp 3) rfl (w.heap.size + 1 + 1) 0 rfl (rtK t n) (by simpa using RowC.of_blk AS.out.x) ?_
        refine hK.out _ _ hS (fun hS => ?_)
        clear hK Kq
        simp only [Act.put, List.getElem_toArray, List.getElem_cons_zero, List.setIfInBounds_toArray, List.set_cons_succ, List.set_cons_zero]
        refine wpAnyH_ready (rs := [4]) (by kernel_rfl) (by simp) ?_
        refine AllReadyH.cons rfl (fun Kq hK => ?_) AllReadyH.nil
        go_simp
        with_reducible refine (rPair_r (rtK t n) (empK n) _).mono ?_
        rintro e x1 ⟨rfl, b1⟩
        rw [HPN.out]
        have A1 := Lib.hid (AS.out.call b1)
        refine hK.out _ _ (HP.out _ _ A1.out) (fun hS => ?_)
        clear hK Kq b1 AS
        refine wpAnyH_ready (rs := [5]) (by kernel_rfl) (by simp) ?_
        refine AllReadyH.cons rfl (fun Kq hK => ?_) AllReadyH.nil
        refine tyKc.step_store rfl (.tmp 3) (.tmp 28) rfl rfl (w.heap.size + 1 + 1) (rtK t (n + 1)) rfl rfl 24 _ A1.out.x (by rw [tyKc.arr]) ?_
        intro w4 o4 b4
        have A4 := Lib.hid (A1.out.put o4 b4)
        refine hK.out _ _ (HP.out _ _ A4.out) (fun _ => ?_)
        clear hK Kq hS o4 b4 A1 HP
        refine wpAnyH_done (by kernel_rfl) ?_ _
        go_wp2_with fail
        go_roundw
        case rel => exact ⟨n + 1, by omega, by go_num, A4⟩
        case measure => simp [intOf]; omega
    · obtain rfl : n = 32 := by omega
      have R9 := Lib.hid AP.out
      obtain ⟨kr, kb⟩ := AP.out.r
      have KR := Lib.hid kb
      clear AP kb
      go_wp2_with (first
        | ((with_reducible refine at_load 3 ?_); refine tyKc.wpList_load rfl (.tmp 3) rfl (w.heap.size + 1 + 1) 0 rfl (rtK t 32) (by simpa using RowC.of_blk R9.out.x) ?_)
        | ((with_reducible refine at_store 2 29 ?_); refine tyKc.wpList_store rfl (.tmp 2) (.tmp 29) rfl rfl (w.heap.size + 1) (rtK t 32) rfl rfl 24 _ KR.out (by rw [tyKc.arr]) ?_; intro w7 o7 b7))
      exact bodyPost_ret (results_cell1 rfl _ _ (w.heap.size + 1) 24 _ (0, 0) _ rfl b7 Tryd.underlying24 rfl (by rw [tyKc.arr]; kernel_rfl)) rfl ⟨rfl, R9.out.below.trans (o7.below (by simp))⟩
end Go.Proofs.YtfmidmhbnpincaaDoor
