/- The project's All. Written by genPE.py. -/
import Derived.Test.YtfmidmhbnpincaaDoorPjB
namespace Go.Proofs.YtfmidmhbnpincaaDoor
open Go.RowKit
/-- what lies there while All is at work -/
structure AlP (w : World) (Z : Array Value) (t : TrV) (W : World) : Prop where
  below : Below w.heap.size w W
  t : Blk W w.heap.size 27 t.cells.toArray
  r : Blk W (w.heap.size + 1) 27 Z
theorem AlP.call {w W W' : World} {Z : Array Value} {t : TrV} (h : AlP w Z t W) (hb : Below W.heap.size W W') : AlP w Z t W' :=
  ⟨h.below.trans (hb.mono h.below.size), below_blk hb h.t h.t.lt, below_blk hb h.r h.r.lt⟩
theorem AlP.fresh {w W W' : World} {Z : Array Value} {t : TrV} {ob : Obj} (h : AlP w Z t W) (o : Only [W.heap.size] (W.alloc ob) W') : AlP w Z t W' :=
  h.call (((Below.refl _ _).alloc (Nat.le_refl _) ob).trans (o.below (by simp)))
set_option maxRecDepth 100000 in
set_option maxHeartbeats 2000000 in
theorem pAll_r : AllTOk := by
  intro t A c l w hn hl hR
  obtain ⟨Z, hZ, hz, hzs, hzn⟩ := zero_of zeroTr_ok zT_size
  have HR := Lib.hid hR
  have HS := Lib.hid hzs
  have HL := Lib.hid hl
  have A0 := Lib.hid (show AlP w Z t ((w.alloc (.cells t.cells.toArray 27)).alloc (.cells Z 27)) from ⟨((Below.refl w.heap.size w).alloc (Nat.le_refl _) _).alloc (by simp) _, (Blk.new w 27 t.cells.toArray).alloc _, by have := Blk.new (w.alloc (.cells t.cells.toArray 27)) 27 Z; rwa [World.size_alloc] at this⟩)
  obtain ⟨Y, hY⟩ : ∃ Y, allT t l = Y := ⟨_, rfl⟩
  rw [hY]
  have HY := Lib.hid hY
  clear hZ hzs hl hY hR
  go_enter Tryd.func11, Tryd.ntmps11
  go_wp2_with fail
  go_loopw [11] (fun i wr => ∃ (n : Nat) (u : TrV), n ≤ l.length ∧ i = .int .i64 n ∧ Hid (Y = allT u (l.drop n)) ∧ Hid (AlP w Z u wr)) (fun i _ => l.length - (intOf i).toNat)
  case atStart => exact ⟨0, t, by omega, rfl, Lib.hid HY.out.symm, A0⟩
  case round =>
    clear A0 HY
    obtain ⟨n, u, hnl, rfl, HX, AS⟩ := hrel
    by_cases hlt : n < l.length
    · obtain ⟨g, o, hA, hg, hc⟩ := (HL.out.below AS.out.below).at encK_len hlt
      obtain ⟨x, hx⟩ : ∃ x, l[n] = x := ⟨_, rfl⟩
      rw [hx] at hc
      have HXN := Lib.hid (show Y = if (appT u x).2 = 0 then allT (appT u x).1 (l.drop (n + 1)) else (zT, (appT u x).2) by
        rw [HX.out, ← List.getElem_cons_drop hlt, hx]
        rfl)
      have HER := Lib.hid (appT_err u x)
      obtain ⟨v, hv⟩ : ∃ v, appT u x = v := ⟨_, rfl⟩
      have HV := Lib.hid hv
      rw [hv] at HXN HER
      obtain ⟨v, er⟩ := v
      subst hA
      have HC := Lib.hid hc
      clear HX hx hc hv hg
      go_wp2_with (first
        | ((with_reducible refine at_load 13 ?_); refine tyKc.wpList_load rfl (.tmp 13) rfl g (o + n * 32) rfl x HC.out ?_)
        | ((with_reducible refine at_store 7 14 ?_); refine tyKc.wpList_store rfl (.tmp 7) (.tmp 14) rfl rfl wr.heap.size x rfl rfl 24 _ (Blk.new wr 24 _) rfl ?_; intro w5 o5 b5
           have A5 := Lib.hid (AS.out.fresh o5)
           have P5 := Lib.hid b5
           clear o5 b5 AS HC)
        | ((with_reducible refine at_load 2 ?_); refine tyTr.wpList_load rfl (.tmp 2) rfl w.heap.size 0 rfl u (by simpa using RowC.of_blk A5.out.t) ?_)
        | ((with_reducible refine at_load 7 ?_); refine tyKc.wpList_load rfl (.tmp 7) rfl wr.heap.size 0 rfl x (by simpa using RowC.of_blk P5.out) ?_))
      refine (pApp_r u x _ (HR.out.on _ A5.out.below)).mono ?_
      rintro e x1 ⟨rfl, b1⟩
      rw [HV.out]
      have A6 := Lib.hid (A5.out.call b1)
      clear b1 A5 P5
      rcases HER.out with h0 | h0
      · subst h0
        have HXM := Lib.hid (show Y = allT v (l.drop (n + 1)) by rw [HXN.out, if_pos rfl])
        go_wp2_with ((with_reducible refine at_store 2 19 ?_); refine tyTr.wpList_store rfl (.tmp 2) (.tmp 19) rfl rfl w.heap.size v rfl rfl 27 u.cells.toArray A6.out.t (by rw [tyTr.arr]) ?_; intro w7 o7 b7
                     have A7 := Lib.hid (show AlP w Z v w7 from ⟨A6.out.below.trans (o7.below (by simp)), b7, o7.blk A6.out.r (by simp)⟩)
                     clear o7 b7)
        go_roundw
        case rel => exact ⟨n + 1, v, by omega, by go_num, HXM, A7⟩
        case measure => simp [intOf]; omega
      · subst h0
        have HXM := Lib.hid (show Y = (zT, 2) by rw [HXN.out, if_neg (by decide)])
        go_wp2_with (first
          | ((with_reducible refine at_store 2 19 ?_); refine tyTr.wpList_store rfl (.tmp 2) (.tmp 19) rfl rfl w.heap.size v rfl rfl 27 u.cells.toArray A6.out.t (by rw [tyTr.arr]) ?_; intro w7 o7 b7
             have A7 := Lib.hid (show AlP w Z v w7 from ⟨A6.out.below.trans (o7.below (by simp)), b7, o7.blk A6.out.r (by simp)⟩)
             clear o7 b7)
          | ((with_reducible refine at_build 23 ?_); refine wpList_built rfl 27 #[] rfl zT.cells.toArray (by kernel_rfl) ?_)
          | ((with_reducible refine at_store 4 23 ?_); refine tyTr.wpList_store rfl (.tmp 4) (.tmp 23) rfl rfl (w.heap.size + 1) zT rfl rfl 27 Z A7.out.r (by rw [HS.out]) ?_; intro w8 o8 b8))
        refine bodyPost_ret (results_cell_tmp1 rfl _ _ (w.heap.size + 1) 27 _ (0, 0) _ rfl b8 Tryd.underlying27 rfl (by rw [tyTr.arr]; kernel_rfl)) rfl ⟨?_, A7.out.below.trans (o8.below (by simp))⟩
        rw [HXM.out]
        rfl
    · obtain rfl : n = l.length := by omega
      have HXL := Lib.hid (show Y = (u, 0) by rw [HX.out, List.drop_length]; rfl)
      clear HX
      go_wp2_with (first
        | ((with_reducible refine at_load 2 ?_); refine tyTr.wpList_load rfl (.tmp 2) rfl w.heap.size 0 rfl u (by simpa using RowC.of_blk AS.out.t) ?_)
        | ((with_reducible refine at_store 4 26 ?_); refine tyTr.wpList_store rfl (.tmp 4) (.tmp 26) rfl rfl (w.heap.size + 1) u rfl rfl 27 Z AS.out.r (by rw [HS.out]) ?_; intro w7 o7 b7))
      refine bodyPost_ret (results_cell_tmp1 rfl _ _ (w.heap.size + 1) 27 _ (0, 0) _ rfl b7 Tryd.underlying27 rfl (by rw [tyTr.arr]; kernel_rfl)) rfl ⟨?_, AS.out.below.trans (o7.below (by simp))⟩
      rw [HXL.out]
      rfl
end Go.Proofs.YtfmidmhbnpincaaDoor
