/- The document's All. -/
import Derived.Test.YtfmidmhbnpincaaDoorTreeF
namespace Go.Proofs.YtfmidmhbnpincaaDoor
open Go.RowKit
def allT : TrV → List K32 → TrV × Int
  | t, [] => (t, 0)
  | t, x :: l => if (appT t x).2 = 0 then allT (appT t x).1 l else (zT, (appT t x).2)
theorem appT_err (t : TrV) (k : K32) : (appT t k).2 = 0 ∨ (appT t k).2 = 2 := by
  by_cases h : t.c = 4294967295
  · rw [appT_full k h]; exact .inr rfl
  · exact .inl (appT_some k h)
/-- what lies there while All is at work -/
structure AlS (w : World) (Z : Array Value) (t : TrV) (W : World) : Prop where
  below : Below w.heap.size w W
  t : Blk W w.heap.size 33 t.cells.toArray
  r : Blk W (w.heap.size + 1) 33 Z
theorem AlS.call {w W W' : World} {Z : Array Value} {t : TrV} (h : AlS w Z t W) (hb : Below W.heap.size W W') : AlS w Z t W' :=
  ⟨h.below.trans (hb.mono h.below.size), below_blk hb h.t h.t.lt, below_blk hb h.r h.r.lt⟩
theorem AlS.drew {w W : World} {Z : Array Value} {t : TrV} (h : AlS w Z t W) : AlS w Z t W.drew := ⟨h.below.drew, h.t, h.r⟩
set_option maxRecDepth 100000 in
set_option maxHeartbeats 2000000 in
theorem rAll_r (t : TrV) (A : Option Addr) (c : Nat) (l : List K32) (w : World) (hl : RowIn encK 32 w w.heap.size A c l) (hn : l.length ≤ 100000) :
    Calls Tryd.prog 12 #[.agg t.cells.toArray, .slice A l.length c] w fun e w' => e = .returned (.tuple #[.agg (allT t l).1.cells.toArray, .int .i64 (allT t l).2]) ∧ Below w.heap.size w w' := by
  obtain ⟨Z, hZ, hz, hzs, hzn⟩ := zero_of zeroRf_ok zT_size
  have HS := Lib.hid hzs
  have HL := Lib.hid hl
  have A0 := Lib.hid (show AlS w Z t ((w.alloc (.cells t.cells.toArray 33)).alloc (.cells Z 33)) from ⟨((Below.refl w.heap.size w).alloc (Nat.le_refl _) _).alloc (by simp) _, (Blk.new w 33 t.cells.toArray).alloc _, by have := Blk.new (w.alloc (.cells t.cells.toArray 33)) 33 Z; rwa [World.size_alloc] at this⟩)
  obtain ⟨Y, hY⟩ : ∃ Y, allT t l = Y := ⟨_, rfl⟩
  rw [hY]
  have HY := Lib.hid hY
  clear hZ hzs hl hY
  go_enter Tryd.func12, Tryd.ntmps12
  go_wp2_with fail
  go_loopw [6] (fun i wr => ∃ (n : Nat) (u : TrV), n ≤ l.length ∧ i = .int .i64 n ∧ Hid (Y = allT u (l.drop n)) ∧ Hid (AlS w Z u wr)) (fun i _ => l.length - (intOf i).toNat)
  case atStart => exact ⟨0, t, by omega, rfl, Lib.hid HY.out.symm, A0⟩
  case round =>
    clear A0 HY
    obtain ⟨n, u, hnl, rfl, HX, AS⟩ := hrel
    by_cases hlt : n < l.length
    · obtain ⟨g, o, hA, hg, hc⟩ := (HL.out.below AS.out.below).at encK_len hlt
      obtain ⟨x, hx⟩ : ∃ x, l[n] = x := ⟨_, rfl⟩
      rw [hx] at hc
      have HXN := Lib.hid (show Y = if (appT u x).2 = 0 then allT (appT u x).1 (l.drop (n + 1)) else (zT, (appT u x).2) by
        rw [HX.out, ← List.getElem_cons_drop hlt, hx]
        rfl)
      have HER := Lib.hid (appT_err u x)
      obtain ⟨v, hv⟩ : ∃ v, appT u x = v := ⟨_, rfl⟩
      have HV := Lib.hid hv
      rw [hv] at HXN HER
      obtain ⟨v, er⟩ := v
      subst hA
      have HC := Lib.hid hc
      have HG := Lib.hid hg
      clear HX hx hc hv hg
      go_wp2_with fail
      have E0 := Lib.hid AS.out.drew
      have X0 := Lib.hid (show RowC wr.drew g (o + n * 32) (encK x) from HC.out)
      have GS := Lib.hid (show w.heap.size ≤ wr.drew.heap.size from AS.out.below.size)
      refine wp_region_held_drew (S := fun W => RowC W w.heap.size 0 u.cells ∧ RowC W g (o + n * 32) (encK x)) (by kernel_rfl) ⟨by simpa using RowC.of_blk E0.out.t, X0.out⟩ ?_
      clear AS HC
      intro hS
      refine wpAnyH_take (i := 0) (v := .agg u.cells.toArray) rfl (by kernel_rfl) (by kernel_rfl) (by kernel_rfl) (fun _ _ _ h => h) (tyRf.yieldsIf_load (by rfl) (.tmp 2) rfl w.heap.size 0 rfl u (fun _ h => h.1)) hS ?_
      simp only [Act.put, List.getElem_toArray, List.getElem_cons_zero, List.setIfInBounds_toArray, List.set_cons_succ, List.set_cons_zero]
      refine wpAnyH_take (i := 1) (v := .slice (some ⟨g, o, none⟩) l.length c) rfl (by kernel_rfl) (by kernel_rfl) (by kernel_rfl) (fun _ _ _ h => h) (Or.inl ⟨by rfl, fun W _ => by go_simp; try with_reducible rfl⟩) hS ?_
      simp only [Act.put, List.getElem_toArray, List.getElem_cons_zero, List.getElem_cons_succ, List.setIfInBounds_toArray, List.set_cons_succ, List.set_cons_zero]
      refine wpAnyH_take (i := 2) (v := .int .i64 n) rfl (by kernel_rfl) (by kernel_rfl) (by kernel_rfl) (fun _ _ _ h => h) (Or.inl ⟨by rfl, fun W _ => by go_simp; try with_reducible rfl⟩) hS ?_
      simp only [Act.put, List.getElem_toArray, List.getElem_cons_zero, List.getElem_cons_succ, List.setIfInBounds_toArray, List.set_cons_succ, List.set_cons_zero]
      refine wpAnyH_take (i := 3) (v := .pointer (some ⟨g, o + n * 32, none⟩)) rfl (by kernel_rfl) (by kernel_rfl) (by kernel_rfl) (fun _ _ _ h => h) (Or.inl ⟨by rfl, fun W _ => by go_simp; try with_reducible rfl⟩) hS ?_
      simp only [Act.put, List.getElem_toArray, List.getElem_cons_zero, List.getElem_cons_succ, List.setIfInBounds_toArray, List.set_cons_succ, List.set_cons_zero]
      refine wpAnyH_take (i := 4) (v := .agg (encK x).toArray) rfl (by kernel_rfl) (by kernel_rfl) (by kernel_rfl) (fun _ _ _ h => h) (tyKc.yieldsIf_load (by rfl) (.tmp 19) rfl g (o + n * 32) rfl x (fun _ h => h.2)) hS ?_
      simp only [Act.put, List.getElem_toArray, List.getElem_cons_zero, List.getElem_cons_succ, List.setIfInBounds_toArray, List.set_cons_succ, List.set_cons_zero]
      refine wpAnyH_ready (rs := [5, 9]) (by kernel_rfl) (by simp) ?_
      refine AllReadyH.cons rfl (fun Kq hK => ?_) (AllReadyH.cons rfl (fun Kq hK => ?_) AllReadyH.nil)
      · go_simp
        with_reducible refine (rApp_r u x _).mono ?_
        rintro e x1 ⟨rfl, b1⟩
        rw [HV.out]
        have E1 := Lib.hid (E0.out.call b1)
        have X1 := Lib.hid (X0.out.below b1 (Nat.lt_of_lt_of_le HG.out GS.out))
        have G1 := Lib.hid (Nat.le_trans GS.out b1.size)
        refine hK.out _ _ ⟨RowC.of_blk E1.out.t, X1.out⟩ (fun hS => ?_)
        clear hK Kq b1
        refine wpAnyH_take (i := 6) (v := .tuple #[.agg v.cells.toArray, .int .i64 er]) rfl (by kernel_rfl) (by kernel_rfl) (by kernel_rfl) (fun _ _ _ h => h) (Or.inl ⟨by rfl, fun W _ => by go_simp; try with_reducible rfl⟩) hS ?_
        simp only [Act.put, List.getElem_toArray, List.getElem_cons_zero, List.getElem_cons_succ, List.setIfInBounds_toArray, List.set_cons_succ, List.set_cons_zero]
        refine wpAnyH_take (i := 7) (v := .agg v.cells.toArray) rfl (by kernel_rfl) (by kernel_rfl) (by kernel_rfl) (fun _ _ _ h => h) (Or.inl ⟨by rfl, fun W _ => by go_simp; try with_reducible rfl⟩) hS ?_
        simp only [Act.put, List.getElem_toArray, List.getElem_cons_zero, List.getElem_cons_succ, List.setIfInBounds_toArray, List.set_cons_succ, List.set_cons_zero]
        refine wpAnyH_take (i := 8) (v := .int .i64 er) rfl (by kernel_rfl) (by kernel_rfl) (by kernel_rfl) (fun _ _ _ h => h) (Or.inl ⟨by rfl, fun W _ => by go_simp; try with_reducible rfl⟩) hS ?_
        simp only [Act.put, List.getElem_toArray, List.getElem_cons_zero, List.getElem_cons_succ, List.setIfInBounds_toArray, List.set_cons_succ, List.set_cons_zero]
        refine wpAnyH_ready (rs := [9]) (by kernel_rfl) (by simp) ?_
        refine AllReadyH.cons rfl (fun Kq hK => ?_) AllReadyH.nil
        go_simp
        have E2 := Lib.hid (E1.out.call ((Below.refl _ _).alloc (Nat.le_refl _) (.cells Z 33)))
        have X2 := Lib.hid (X1.out.below ((Below.refl _ _).alloc (Nat.le_refl _) (.cells Z 33)) (Nat.lt_of_lt_of_le HG.out G1.out))
        have K2 := Lib.hid (Blk.new x1 33 Z)
        have GZ := Lib.hid (show w.heap.size + 1 < x1.heap.size ∧ g < w.heap.size from ⟨E1.out.r.lt, HG.out⟩)
        refine hK.out _ _ ⟨RowC.of_blk E2.out.t, X2.out⟩ (fun hS => ?_)
        clear hK Kq E1 X1
        refine wpAnyH_ready (rs := [10]) (by kernel_rfl) (by simp) ?_
        refine AllReadyH.cons rfl (fun Kq hK => ?_) AllReadyH.nil
        refine tyRf.step_store rfl (.tmp 7) (.tmp 22) rfl rfl (x1.heap.size) v rfl rfl 33 Z K2.out HS.out ?_
        intro w4 o4 b4
        have E4 := Lib.hid (show AlS w Z u w4 from ⟨E2.out.below.trans (o4.below (by have := GZ.out; simp; omega)), o4.blk E2.out.t (by have := GZ.out; simp; omega), o4.blk E2.out.r (by have := GZ.out; simp; omega)⟩)
        have K7 := Lib.hid b4
        have X4 := Lib.hid (show RowC w4 g (o + n * 32) (encK x) from X2.out.below (o4.below (B := w.heap.size) (by have := GZ.out; simp; omega)) GZ.out.2)
        refine hK.out _ _ ⟨RowC.of_blk E4.out.t, X4.out⟩ (fun hS => ?_)
        clear hK Kq o4 b4
        refine wpAnyH_ready (rs := [11]) (by kernel_rfl) (by simp) ?_
        refine AllReadyH.cons rfl (fun Kq hK => ?_) AllReadyH.nil
        go_simp
        refine hK.out _ _ hS (fun _ => ?_)
        clear hK Kq hS X4
        refine wpAnyH_done (by kernel_rfl) ?_ _
        rcases HER.out with h0 | h0
        · subst h0
          have HXM := Lib.hid (show Y = allT v (l.drop (n + 1)) by rw [HXN.out, if_pos rfl])
          go_wp2_with (first
            | ((with_reducible refine at_load 7 ?_); refine tyRf.wpList_load rfl (.tmp 7) rfl (x1.heap.size) 0 rfl v (by simpa using RowC.of_blk K7.out) ?_)
            | ((with_reducible refine at_store 2 28 ?_); refine tyRf.wpList_store rfl (.tmp 2) (.tmp 28) rfl rfl w.heap.size v rfl rfl 33 u.cells.toArray E4.out.t (by rw [tyRf.arr]) ?_; intro w5 o5 b5
               have E5 := Lib.hid (show AlS w Z v w5 from ⟨E4.out.below.trans (o5.below (by simp)), b5, o5.blk E4.out.r (by simp)⟩)
               clear o5 b5))
          go_roundw
          case rel => exact ⟨n + 1, v, by omega, by go_num, HXM, E5⟩
          case measure => simp [intOf]; omega
        · subst h0
          have HXM := Lib.hid (show Y = (zT, 2) by rw [HXN.out, if_neg (by decide)])
          go_wp2_with (first
            | ((with_reducible refine at_build 26 ?_); refine wpList_built rfl 33 #[] rfl zT.cells.toArray (by kernel_rfl) ?_)
            | ((with_reducible refine at_store 4 26 ?_); refine tyRf.wpList_store rfl (.tmp 4) (.tmp 26) rfl rfl (w.heap.size + 1) zT rfl rfl 33 Z E4.out.r (by rw [HS.out]) ?_; intro w7 o7 b7))
          refine bodyPost_ret (results_cell_tmp1 rfl _ _ (w.heap.size + 1) 33 _ (0, 0) _ rfl b7 Tryd.underlying33 rfl (by rw [tyRf.arr]; kernel_rfl)) rfl ⟨?_, E4.out.below.trans (o7.below (by simp))⟩
          rw [HXM.out]
          rfl
      · go_simp
        have EA := Lib.hid (E0.out.call ((Below.refl _ _).alloc (Nat.le_refl _) (.cells Z 33)))
        have XA := Lib.hid (X0.out.below ((Below.refl _ _).alloc (Nat.le_refl _) (.cells Z 33)) (Nat.lt_of_lt_of_le HG.out GS.out))
        have KA := Lib.hid (show Blk (wr.drew.alloc (.cells Z 33)) wr.heap.size 33 Z from Blk.new wr.drew 33 Z)
        have GZ := Lib.hid (show w.heap.size + 1 < wr.heap.size ∧ g < w.heap.size from ⟨E0.out.r.lt, HG.out⟩)
        refine hK.out _ (wr.drew.alloc (.cells Z 33)) ⟨RowC.of_blk EA.out.t, XA.out⟩ (fun hS => ?_)
        clear hK Kq
        refine wpAnyH_ready (rs := [5]) (by kernel_rfl) (by simp) ?_
        refine AllReadyH.cons rfl (fun Kq hK => ?_) AllReadyH.nil
        go_simp
        with_reducible refine (rApp_r u x _).mono ?_
        rintro e x1 ⟨rfl, b1⟩
        rw [HV.out]
        have E2 := Lib.hid (EA.out.call b1)
        have X2 := Lib.hid (XA.out.below b1 (by have := GZ.out; simp <;> omega))
        have K2 := Lib.hid (below_blk b1 KA.out KA.out.lt)
        refine hK.out _ _ ⟨RowC.of_blk E2.out.t, X2.out⟩ (fun hS => ?_)
        clear hK Kq b1 EA XA KA
        refine wpAnyH_take (i := 6) (v := .tuple #[.agg v.cells.toArray, .int .i64 er]) rfl (by kernel_rfl) (by kernel_rfl) (by kernel_rfl) (fun _ _ _ h => h) (Or.inl ⟨by rfl, fun W _ => by go_simp; try with_reducible rfl⟩) hS ?_
        simp only [Act.put, List.getElem_toArray, List.getElem_cons_zero, List.getElem_cons_succ, List.setIfInBounds_toArray, List.set_cons_succ, List.set_cons_zero]
        refine wpAnyH_take (i := 7) (v := .agg v.cells.toArray) rfl (by kernel_rfl) (by kernel_rfl) (by kernel_rfl) (fun _ _ _ h => h) (Or.inl ⟨by rfl, fun W _ => by go_simp; try with_reducible rfl⟩) hS ?_
        simp only [Act.put, List.getElem_toArray, List.getElem_cons_zero, List.getElem_cons_succ, List.setIfInBounds_toArray, List.set_cons_succ, List.set_cons_zero]
        refine wpAnyH_take (i := 8) (v := .int .i64 er) rfl (by kernel_rfl) (by kernel_rfl) (by kernel_rfl) (fun _ _ _ h => h) (Or.inl ⟨by rfl, fun W _ => by go_simp; try with_reducible rfl⟩) hS ?_
        simp only [Act.put, List.getElem_toArray, List.getElem_cons_zero, List.getElem_cons_succ, List.setIfInBounds_toArray, List.set_cons_succ, List.set_cons_zero]
        refine wpAnyH_ready (rs := [10]) (by kernel_rfl) (by simp) ?_
        refine AllReadyH.cons rfl (fun Kq hK => ?_) AllReadyH.nil
        refine tyRf.step_store rfl (.tmp 7) (.tmp 22) rfl rfl (wr.heap.size) v rfl rfl 33 Z K2.out HS.out ?_
        intro w4 o4 b4
        have E4 := Lib.hid (show AlS w Z u w4 from ⟨E2.out.below.trans (o4.below (by have := GZ.out; simp; omega)), o4.blk E2.out.t (by have := GZ.out; simp; omega), o4.blk E2.out.r (by have := GZ.out; simp; omega)⟩)
        have K7 := Lib.hid b4
        have X4 := Lib.hid (show RowC w4 g (o + n * 32) (encK x) from X2.out.below (o4.below (B := w.heap.size) (by have := GZ.out; simp; omega)) GZ.out.2)
        refine hK.out _ _ ⟨RowC.of_blk E4.out.t, X4.out⟩ (fun hS => ?_)
        clear hK Kq o4 b4
        refine wpAnyH_ready (rs := [11]) (by kernel_rfl) (by simp) ?_
        refine AllReadyH.cons rfl (fun Kq hK => ?_) AllReadyH.nil
        go_simp
        refine hK.out _ _ hS (fun _ => ?_)
        clear hK Kq hS X4
        refine wpAnyH_done (by kernel_rfl) ?_ _
        rcases HER.out with h0 | h0
        · subst h0
          have HXM := Lib.hid (show Y = allT v (l.drop (n + 1)) by rw [HXN.out, if_pos rfl])
          go_wp2_with (first
            | ((with_reducible refine at_load 7 ?_); refine tyRf.wpList_load rfl (.tmp 7) rfl (wr.heap.size) 0 rfl v (by simpa using RowC.of_blk K7.out) ?_)
            | ((with_reducible refine at_store 2 28 ?_); refine tyRf.wpList_store rfl (.tmp 2) (.tmp 28) rfl rfl w.heap.size v rfl rfl 33 u.cells.toArray E4.out.t (by rw [tyRf.arr]) ?_; intro w5 o5 b5
               have E5 := Lib.hid (show AlS w Z v w5 from ⟨E4.out.below.trans (o5.below (by simp)), b5, o5.blk E4.out.r (by simp)⟩)
               clear o5 b5))
          go_roundw
          case rel => exact ⟨n + 1, v, by omega, by go_num, HXM, E5⟩
          case measure => simp [intOf]; omega
        · subst h0
          have HXM := Lib.hid (show Y = (zT, 2) by rw [HXN.out, if_neg (by decide)])
          go_wp2_with (first
            | ((with_reducible refine at_build 26 ?_); refine wpList_built rfl 33 #[] rfl zT.cells.toArray (by kernel_rfl) ?_)
            | ((with_reducible refine at_store 4 26 ?_); refine tyRf.wpList_store rfl (.tmp 4) (.tmp 26) rfl rfl (w.heap.size + 1) zT rfl rfl 33 Z E4.out.r (by rw [HS.out]) ?_; intro w7 o7 b7))
          refine bodyPost_ret (results_cell_tmp1 rfl _ _ (w.heap.size + 1) 33 _ (0, 0) _ rfl b7 Tryd.underlying33 rfl (by rw [tyRf.arr]; kernel_rfl)) rfl ⟨?_, E4.out.below.trans (o7.below (by simp))⟩
          rw [HXM.out]
          rfl
    · obtain rfl : n = l.length := by omega
      have HXL := Lib.hid (show Y = (u, 0) by rw [HX.out, List.drop_length]; rfl)
      clear HX
      go_wp2_with (first
        | ((with_reducible refine at_load 2 ?_); refine tyRf.wpList_load rfl (.tmp 2) rfl w.heap.size 0 rfl u (by simpa using RowC.of_blk AS.out.t) ?_)
        | ((with_reducible refine at_store 4 29 ?_); refine tyRf.wpList_store rfl (.tmp 4) (.tmp 29) rfl rfl (w.heap.size + 1) u rfl rfl 33 Z AS.out.r (by rw [HS.out]) ?_; intro w7 o7 b7))
      refine bodyPost_ret (results_cell_tmp1 rfl _ _ (w.heap.size + 1) 33 _ (0, 0) _ rfl b7 Tryd.underlying33 rfl (by rw [tyRf.arr]; kernel_rfl)) rfl ⟨?_, AS.out.below.trans (o7.below (by simp))⟩
      rw [HXL.out]
      rfl
end Go.Proofs.YtfmidmhbnpincaaDoor
