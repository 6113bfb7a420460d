/- TreeTells' walk. Written by genL7b.py. -/
import Derived.Test.YtfmidmhbnpincaaDoorTreeT
namespace Go.Proofs.YtfmidmhbnpincaaDoor
open Go.RowKit
theorem Holds.again {w W W6 W' : World} {L : List (Nat × TypeId × Array Value)} {t t2 : TypeId} {c1 cs : Array Value} (h : Holds w L W) (h6 : Holds w ((W.heap.size, t, c1) :: L) W6) (o : Only [W.heap.size] W6 W') (b : Blk W' W.heap.size t2 cs) : Holds w ((W.heap.size, t2, cs) :: L) W' :=
  ⟨h6.below.trans (o.below (by have := h.below.size; simpa using this)), fun x hx => by
    rcases List.mem_cons.1 hx with rfl | hx
    · exact b
    · exact o.blk (h6.blks x (List.mem_cons_of_mem _ hx)) (by have := (h.blks x hx).lt; simp; omega)⟩
set_option maxRecDepth 100000 in
set_option maxHeartbeats 4000000 in
theorem ttells_walk (HE : EmpTOk) (HP : AppTOk) (HL' : AllTOk) (HT : RotTOk) (t : TrV) (A : Option Addr) (c : Nat) (l : List K32) (w : World) (hl : RowIn encK 32 w w.heap.size A c l) (hR : Roots w) :
    Calls Tryd.prog 3 #[.agg t.cells.toArray, .slice A l.length c] w fun e w' => e = .returned (.bool true) ∧ Below w.heap.size w w' := by
  have SH := Lib.hid (fun W h => tshown_any HP W h)
  unfold EmpTOk at HE
  unfold AppTOk at HP
  unfold AllTOk at HL'
  unfold RotTOk at HT
  have HL := Lib.hid hl
  have RR := Lib.hid (Roots.on hR)
  have H0 := Lib.hid ((Holds.nil w).box 27 t.cells.toArray)
  by_cases h60 : 60 < l.length
  · have hd : decide ((60 : Int) < (l.length : Int)) = true := by simp; omega
    clear hl hR
    go_enter Tryd.func3, Tryd.ntmps3
    go_wp2_with fail
    refine (SH.out _ (RR.out _ H0.out.below)).mono ?_
    rintro e w1 ⟨rfl, b1⟩
    have H1 := Lib.hid (H0.out.call b1)
    clear b1
    go_wp2_with fail
    go_ret
    exact ⟨rfl, H1.out.below⟩
  · have hd : decide ((60 : Int) < (l.length : Int)) = false := by simp; omega
    have H60 := Lib.hid (show l.length ≤ 60 by omega)
    obtain ⟨Z, hZ, hz, hzs, hzn⟩ := zero_of zeroTr_ok zT_size
    obtain ⟨Zr, hZr, hzr, hzsr, hznr⟩ := zero_of zeroRf_ok zT_size
    have HS := Lib.hid hzs
    have HSr := Lib.hid hzsr
    obtain ⟨vl, hvl⟩ : ∃ vl, allT t l = vl := ⟨_, rfl⟩
    obtain ⟨v1, e1⟩ := vl
    have HV1 := Lib.hid hvl
    clear hl hR hZ hzs hZr hzsr hvl
    go_enter Tryd.func3, Tryd.ntmps3
    go_wp2_with fail
    refine (SH.out _ (RR.out _ H0.out.below)).mono ?_
    rintro e w1 ⟨rfl, b1⟩
    have H1 := Lib.hid (H0.out.call b1)
    clear b1
    go_wp2_with ((with_reducible refine at_load 2 ?_); refine tyTr.wpList_load rfl (.tmp 2) rfl w.heap.size 0 rfl t (RowC.of_blk (H1.out.at (x := (w.heap.size, 27, t.cells.toArray)) (by simp))) ?_)
    refine (HL' t A c l w1 (by have := H60.out; omega) ((HL.out.below H1.out.below).more H1.out.below.size) (RR.out _ H1.out.below)).mono ?_
    rintro e w2 ⟨rfl, b2⟩
    rw [HV1.out]
    have H2 := Lib.hid (H1.out.call b2)
    clear b2
    go_wp2_with (first
      | ((with_reducible refine at_store 5 26 ?_); refine tyTr.wpList_store rfl (.tmp 5) (.tmp 26) rfl rfl w2.heap.size v1 rfl rfl 27 Z (Blk.new w2 27 Z) (by rw [HS.out]) ?_; intro w3 o3 b3
         have H3 := Lib.hid (H2.out.put o3 b3)
         clear o3 b3)
      | ((with_reducible refine at_load 2 ?_); refine tyTr.wpList_load rfl (.tmp 2) rfl w.heap.size 0 rfl t (RowC.of_blk (H3.out.at (x := (w.heap.size, 27, t.cells.toArray)) (by simp))) ?_))
    refine (rAll_r t A c l w3 ((HL.out.below H3.out.below).more H3.out.below.size) (by have := H60.out; omega)).mono ?_
    rintro e w4 ⟨rfl, b4⟩
    rw [HV1.out]
    have H4 := Lib.hid (H3.out.call b4)
    clear b4
    cases l with
    | nil =>
      obtain ⟨va, hva⟩ : ∃ va, appT t zeroKey = va := ⟨_, rfl⟩
      obtain ⟨v2, e2⟩ := va
      have HV2 := Lib.hid hva
      clear hva
      go_wp2_with (first
        | ((with_reducible refine at_store 7 32 ?_); refine tyRf.wpList_store rfl (.tmp 7) (.tmp 32) rfl rfl w4.heap.size v1 rfl rfl 33 Zr (Blk.new w4 33 Zr) (by rw [HSr.out]) ?_; intro w5 o5 b5
           have H5 := Lib.hid (H4.out.put o5 b5)
           clear o5 b5)
        | ((with_reducible refine at_build 34 ?_); refine wpList_built rfl 24 #[] rfl (encK zeroKey).toArray (by kernel_rfl) ?_)
        | ((with_reducible refine at_store 9 34 ?_); refine tyKc.wpList_store rfl (.tmp 9) (.tmp 34) rfl rfl w5.heap.size zeroKey rfl rfl 24 _ (Blk.new w5 24 _) rfl ?_; intro w7 o7 b7
           have H7 := Lib.hid (H5.out.put o7 b7)
           clear o7 b7)
        | ((with_reducible refine at_load 2 ?_); refine tyTr.wpList_load rfl (.tmp 2) rfl w.heap.size 0 rfl t (RowC.of_blk (H7.out.at (x := (w.heap.size, 27, t.cells.toArray)) (by simp))) ?_)
        | ((with_reducible refine at_load 9 ?_); refine tyKc.wpList_load rfl (.tmp 9) rfl w5.heap.size 0 rfl zeroKey (RowC.of_blk (H7.out.at (x := (w5.heap.size, 24, (encK zeroKey).toArray)) (by simp))) ?_))
      refine (HP t zeroKey w7 (RR.out _ H7.out.below)).mono ?_
      rintro e w8 ⟨rfl, b8⟩
      rw [HV2.out]
      have H8 := Lib.hid (H7.out.call b8)
      clear b8
      go_wp2_with (first
        | ((with_reducible refine at_store 10 45 ?_); refine tyTr.wpList_store rfl (.tmp 10) (.tmp 45) rfl rfl w8.heap.size v2 rfl rfl 27 Z (Blk.new w8 27 Z) (by rw [HS.out]) ?_; intro w9 o9 b9
           have H9 := Lib.hid (H8.out.put o9 b9)
           clear o9 b9)
        | ((with_reducible refine at_load 2 ?_); refine tyRf.wpList_load rfl (.tmp 2) rfl w.heap.size 0 rfl t (RowC.of_blk (H9.out.at (x := (w.heap.size, 27, t.cells.toArray)) (by simp))) ?_)
        | ((with_reducible refine at_load 2 ?_); refine tyTr.wpList_load rfl (.tmp 2) rfl w.heap.size 0 rfl t (RowC.of_blk (H9.out.at (x := (w.heap.size, 27, t.cells.toArray)) (by simp))) ?_)
        | ((with_reducible refine at_load 9 ?_); refine tyKc.wpList_load rfl (.tmp 9) rfl w5.heap.size 0 rfl zeroKey (RowC.of_blk (H9.out.at (x := (w5.heap.size, 24, (encK zeroKey).toArray)) (by simp))) ?_))
      refine (rApp_r t zeroKey w9).mono ?_
      rintro e w10 ⟨rfl, b10⟩
      rw [HV2.out]
      have H10 := Lib.hid (H9.out.call b10)
      clear b10
      go_wp2_with (first
        | ((with_reducible refine at_store 12 51 ?_); refine tyRf.wpList_store rfl (.tmp 12) (.tmp 51) rfl rfl w10.heap.size v2 rfl rfl 33 Zr (Blk.new w10 33 Zr) (by rw [HSr.out]) ?_; intro w11 o11 b11
           have H11 := Lib.hid (H10.out.put o11 b11)
           clear o11 b11))
      have XT := Lib.hid (fun (W : World) (hC : From w11 W) => show RowC W w.heap.size 0 t.cells from RowC.of_blk ((H11.out.call hC.below).at (x := (w.heap.size, 27, t.cells.toArray)) (by simp)))
      have X5 := Lib.hid (fun (W : World) (hC : From w11 W) => show RowC W w2.heap.size 0 v1.cells from RowC.of_blk ((H11.out.call hC.below).at (x := (w2.heap.size, 27, v1.cells.toArray)) (by simp)))
      have X7 := Lib.hid (fun (W : World) (hC : From w11 W) => show RowC W w4.heap.size 0 v1.cells from RowC.of_blk ((H11.out.call hC.below).at (x := (w4.heap.size, 33, v1.cells.toArray)) (by simp)))
      have X10 := Lib.hid (fun (W : World) (hC : From w11 W) => show RowC W w8.heap.size 0 v2.cells from RowC.of_blk ((H11.out.call hC.below).at (x := (w8.heap.size, 27, v2.cells.toArray)) (by simp)))
      have X12 := Lib.hid (fun (W : World) (hC : From w11 W) => show RowC W w10.heap.size 0 v2.cells from RowC.of_blk ((H11.out.call hC.below).at (x := (w10.heap.size, 33, v2.cells.toArray)) (by simp)))
      have TW := Lib.hid (fun (W : World) (hC : From w11 W) => HT t W (RR.out W (H11.out.call hC.below).below))
      have EW := Lib.hid (fun (W : World) (hC : From w11 W) => HE W (RR.out W (H11.out.call hC.below).below))
      obtain ⟨kr, hkr⟩ : ∃ kr, rtK t 32 = kr := ⟨_, rfl⟩
      have RWR := Lib.hid (fun (W : World) => rRoot_r t W)
      rw [hkr] at TW RWR
      clear hkr
      refine wp_region_from (by kernel_rfl) (by kernel_rfl) ?_
      repeat (first
        | go_big_quiet_skip
        | ((with_reducible refine at_qload 5 ?_); refine tyTr.wpQuiet_load (by rfl) (.tmp 5) rfl w2.heap.size 0 rfl v1 X5.out ?_; simp only [Act.put, List.setIfInBounds_toArray, List.set_cons_succ, List.set_cons_zero])
        | ((with_reducible refine at_qload 7 ?_); refine tyRf.wpQuiet_load (by rfl) (.tmp 7) rfl w4.heap.size 0 rfl v1 X7.out ?_; simp only [Act.put, List.setIfInBounds_toArray, List.set_cons_succ, List.set_cons_zero])
        | ((with_reducible refine at_qload 10 ?_); refine tyTr.wpQuiet_load (by rfl) (.tmp 10) rfl w8.heap.size 0 rfl v2 X10.out ?_; simp only [Act.put, List.setIfInBounds_toArray, List.set_cons_succ, List.set_cons_zero])
        | ((with_reducible refine at_qload 12 ?_); refine tyRf.wpQuiet_load (by rfl) (.tmp 12) rfl w10.heap.size 0 rfl v2 X12.out ?_; simp only [Act.put, List.setIfInBounds_toArray, List.set_cons_succ, List.set_cons_zero])
        | ((with_reducible refine at_qload 2 ?_); refine tyTr.wpQuiet_load (by rfl) (.tmp 2) rfl w.heap.size 0 rfl t XT.out ?_; simp only [Act.put, List.setIfInBounds_toArray, List.set_cons_succ, List.set_cons_zero])
        | ((with_reducible refine at_qeql 53 54 ?_); refine wpQuiet_eql_row (by rfl) 33 33 (.tmp 53) (.tmp 54) rfl v1.cells.toArray v1.cells.toArray rfl rfl (by kernel_rfl) true (eqRf_run v1) ?_; simp only [Act.put, List.setIfInBounds_toArray, List.set_cons_succ, List.set_cons_zero])
        | ((with_reducible refine at_qeql 62 63 ?_); refine wpQuiet_eql_row (by rfl) 33 33 (.tmp 62) (.tmp 63) rfl v2.cells.toArray v2.cells.toArray rfl rfl (by kernel_rfl) true (eqRf_run v2) ?_; simp only [Act.put, List.setIfInBounds_toArray, List.set_cons_succ, List.set_cons_zero])
        | ((with_reducible refine at_qeql 73 75 ?_); refine wpQuiet_eql_row (by rfl) 24 24 (.tmp 73) (.tmp 75) rfl (encK kr).toArray (encK kr).toArray rfl rfl (by kernel_rfl) true (fun V => (eqKy_run _ _ V).trans (by simp)) ?_; simp only [Act.put, List.setIfInBounds_toArray, List.set_cons_succ, List.set_cons_zero])
        | ((with_reducible refine at_qeql 79 80 ?_); refine wpQuiet_eql_row (by rfl) 40 40 (.tmp 79) (.tmp 80) rfl (mkE 32 (by omega)).cells.toArray (mkE 32 (by omega)).cells.toArray rfl rfl (by kernel_rfl) true (eqE_run _) ?_; simp only [Act.put, List.setIfInBounds_toArray, List.set_cons_succ, List.set_cons_zero])
        | (go_big_quiet_want; go_big_quiet_op; refine ⟨_, fun _ _ => by with_reducible rfl, ?_⟩; go_big_quiet_on)
        | go_big_quiet_step ((intro hC; first
            | (go_at_call 15; with_reducible exact (TW.out _ hC).mono fun _ _ h => ⟨h.1, hC.call h.2⟩)
            | (go_at_call 16; with_reducible exact (RWR.out _).mono fun _ _ h => ⟨h.1, hC.call h.2⟩)
            | (go_at_call 17; with_reducible exact (EW.out _ hC).mono fun _ _ h => ⟨h.1, hC.call h.2⟩)
            | (go_at_call 18; with_reducible exact (rEmpty_r _).mono fun _ _ h => ⟨h.1, hC.call h.2⟩)
            | fail)))
      refine wpQuiet_nil ?_
      intro wz hC
      have HZ9 := Lib.hid (H11.out.call hC.below)
      clear hC
      go_wp2_with fail
      go_ret
      exact ⟨rfl, HZ9.out.below⟩
    | cons x l =>
      have hpos : decide ((0 : Int) < (((x :: l).length : Nat) : Int)) = true := by simp <;> omega
      obtain ⟨g, o, hA, hg, hc⟩ := HL.out.at encK_len (i := 0) (by simp)
      have hi0 : (0 : Int) < (((x :: l).length : Nat) : Int) := by simp <;> omega
      subst hA
      have HC := Lib.hid (show RowC w g o (encK x) from by simpa using hc)
      have HG := Lib.hid hg
      clear hc hg
      obtain ⟨va, hva⟩ : ∃ va, appT t x = va := ⟨_, rfl⟩
      obtain ⟨v2, e2⟩ := va
      have HV2 := Lib.hid hva
      clear hva
      go_wp2_with (first
        | ((with_reducible refine at_store 7 32 ?_); refine tyRf.wpList_store rfl (.tmp 7) (.tmp 32) rfl rfl w4.heap.size v1 rfl rfl 33 Zr (Blk.new w4 33 Zr) (by rw [HSr.out]) ?_; intro w5 o5 b5
           have H5 := Lib.hid (H4.out.put o5 b5)
           clear o5 b5)
        | ((with_reducible refine at_build 34 ?_); refine wpList_built rfl 24 #[] rfl (encK zeroKey).toArray (by kernel_rfl) ?_)
        | ((with_reducible refine at_store 9 34 ?_); refine tyKc.wpList_store rfl (.tmp 9) (.tmp 34) rfl rfl w5.heap.size zeroKey rfl rfl 24 _ (Blk.new w5 24 _) rfl ?_; intro w6 o6 b6
           have H6 := Lib.hid (H5.out.put o6 b6)
           clear o6 b6)
        | ((with_reducible refine at_load 39 ?_); refine tyKc.wpList_load rfl (.tmp 39) rfl g o rfl x (HC.out.below H6.out.below HG.out) ?_)
        | ((with_reducible refine at_store 9 40 ?_); refine tyKc.wpList_store rfl (.tmp 9) (.tmp 40) rfl rfl w5.heap.size x rfl rfl 24 _ (H6.out.at (x := (w5.heap.size, 24, (encK zeroKey).toArray)) (by simp)) (by rw [tyKc.arr]) ?_; intro w7 o7 b7
           have H7 := Lib.hid (show Holds w ((w5.heap.size, 24, (encK x).toArray) :: _) w7 from H5.out.again H6.out o7 b7)
           clear o7 b7)
        | ((with_reducible refine at_load 2 ?_); refine tyTr.wpList_load rfl (.tmp 2) rfl w.heap.size 0 rfl t (RowC.of_blk (H7.out.at (x := (w.heap.size, 27, t.cells.toArray)) (by simp))) ?_)
        | ((with_reducible refine at_load 9 ?_); refine tyKc.wpList_load rfl (.tmp 9) rfl w5.heap.size 0 rfl x (RowC.of_blk (H7.out.at (x := (w5.heap.size, 24, (encK x).toArray)) (by simp))) ?_))
      refine (HP t x w7 (RR.out _ H7.out.below)).mono ?_
      rintro e w8 ⟨rfl, b8⟩
      rw [HV2.out]
      have H8 := Lib.hid (H7.out.call b8)
      clear b8
      go_wp2_with (first
        | ((with_reducible refine at_store 10 45 ?_); refine tyTr.wpList_store rfl (.tmp 10) (.tmp 45) rfl rfl w8.heap.size v2 rfl rfl 27 Z (Blk.new w8 27 Z) (by rw [HS.out]) ?_; intro w9 o9 b9
           have H9 := Lib.hid (H8.out.put o9 b9)
           clear o9 b9)
        | ((with_reducible refine at_load 2 ?_); refine tyRf.wpList_load rfl (.tmp 2) rfl w.heap.size 0 rfl t (RowC.of_blk (H9.out.at (x := (w.heap.size, 27, t.cells.toArray)) (by simp))) ?_)
        | ((with_reducible refine at_load 2 ?_); refine tyTr.wpList_load rfl (.tmp 2) rfl w.heap.size 0 rfl t (RowC.of_blk (H9.out.at (x := (w.heap.size, 27, t.cells.toArray)) (by simp))) ?_)
        | ((with_reducible refine at_load 9 ?_); refine tyKc.wpList_load rfl (.tmp 9) rfl w5.heap.size 0 rfl x (RowC.of_blk (H9.out.at (x := (w5.heap.size, 24, (encK x).toArray)) (by simp))) ?_))
      refine (rApp_r t x w9).mono ?_
      rintro e w10 ⟨rfl, b10⟩
      rw [HV2.out]
      have H10 := Lib.hid (H9.out.call b10)
      clear b10
      go_wp2_with (first
        | ((with_reducible refine at_store 12 51 ?_); refine tyRf.wpList_store rfl (.tmp 12) (.tmp 51) rfl rfl w10.heap.size v2 rfl rfl 33 Zr (Blk.new w10 33 Zr) (by rw [HSr.out]) ?_; intro w11 o11 b11
           have H11 := Lib.hid (H10.out.put o11 b11)
           clear o11 b11))
      have XT := Lib.hid (fun (W : World) (hC : From w11 W) => show RowC W w.heap.size 0 t.cells from RowC.of_blk ((H11.out.call hC.below).at (x := (w.heap.size, 27, t.cells.toArray)) (by simp)))
      have X5 := Lib.hid (fun (W : World) (hC : From w11 W) => show RowC W w2.heap.size 0 v1.cells from RowC.of_blk ((H11.out.call hC.below).at (x := (w2.heap.size, 27, v1.cells.toArray)) (by simp)))
      have X7 := Lib.hid (fun (W : World) (hC : From w11 W) => show RowC W w4.heap.size 0 v1.cells from RowC.of_blk ((H11.out.call hC.below).at (x := (w4.heap.size, 33, v1.cells.toArray)) (by simp)))
      have X10 := Lib.hid (fun (W : World) (hC : From w11 W) => show RowC W w8.heap.size 0 v2.cells from RowC.of_blk ((H11.out.call hC.below).at (x := (w8.heap.size, 27, v2.cells.toArray)) (by simp)))
      have X12 := Lib.hid (fun (W : World) (hC : From w11 W) => show RowC W w10.heap.size 0 v2.cells from RowC.of_blk ((H11.out.call hC.below).at (x := (w10.heap.size, 33, v2.cells.toArray)) (by simp)))
      have TW := Lib.hid (fun (W : World) (hC : From w11 W) => HT t W (RR.out W (H11.out.call hC.below).below))
      have EW := Lib.hid (fun (W : World) (hC : From w11 W) => HE W (RR.out W (H11.out.call hC.below).below))
      obtain ⟨kr, hkr⟩ : ∃ kr, rtK t 32 = kr := ⟨_, rfl⟩
      have RWR := Lib.hid (fun (W : World) => rRoot_r t W)
      rw [hkr] at TW RWR
      clear hkr
      refine wp_region_from (by kernel_rfl) (by kernel_rfl) ?_
      repeat (first
        | go_big_quiet_skip
        | ((with_reducible refine at_qload 5 ?_); refine tyTr.wpQuiet_load (by rfl) (.tmp 5) rfl w2.heap.size 0 rfl v1 X5.out ?_; simp only [Act.put, List.setIfInBounds_toArray, List.set_cons_succ, List.set_cons_zero])
        | ((with_reducible refine at_qload 7 ?_); refine tyRf.wpQuiet_load (by rfl) (.tmp 7) rfl w4.heap.size 0 rfl v1 X7.out ?_; simp only [Act.put, List.setIfInBounds_toArray, List.set_cons_succ, List.set_cons_zero])
        | ((with_reducible refine at_qload 10 ?_); refine tyTr.wpQuiet_load (by rfl) (.tmp 10) rfl w8.heap.size 0 rfl v2 X10.out ?_; simp only [Act.put, List.setIfInBounds_toArray, List.set_cons_succ, List.set_cons_zero])
        | ((with_reducible refine at_qload 12 ?_); refine tyRf.wpQuiet_load (by rfl) (.tmp 12) rfl w10.heap.size 0 rfl v2 X12.out ?_; simp only [Act.put, List.setIfInBounds_toArray, List.set_cons_succ, List.set_cons_zero])
        | ((with_reducible refine at_qload 2 ?_); refine tyTr.wpQuiet_load (by rfl) (.tmp 2) rfl w.heap.size 0 rfl t XT.out ?_; simp only [Act.put, List.setIfInBounds_toArray, List.set_cons_succ, List.set_cons_zero])
        | ((with_reducible refine at_qeql 53 54 ?_); refine wpQuiet_eql_row (by rfl) 33 33 (.tmp 53) (.tmp 54) rfl v1.cells.toArray v1.cells.toArray rfl rfl (by kernel_rfl) true (eqRf_run v1) ?_; simp only [Act.put, List.setIfInBounds_toArray, List.set_cons_succ, List.set_cons_zero])
        | ((with_reducible refine at_qeql 62 63 ?_); refine wpQuiet_eql_row (by rfl) 33 33 (.tmp 62) (.tmp 63) rfl v2.cells.toArray v2.cells.toArray rfl rfl (by kernel_rfl) true (eqRf_run v2) ?_; simp only [Act.put, List.setIfInBounds_toArray, List.set_cons_succ, List.set_cons_zero])
        | ((with_reducible refine at_qeql 73 75 ?_); refine wpQuiet_eql_row (by rfl) 24 24 (.tmp 73) (.tmp 75) rfl (encK kr).toArray (encK kr).toArray rfl rfl (by kernel_rfl) true (fun V => (eqKy_run _ _ V).trans (by simp)) ?_; simp only [Act.put, List.setIfInBounds_toArray, List.set_cons_succ, List.set_cons_zero])
        | ((with_reducible refine at_qeql 79 80 ?_); refine wpQuiet_eql_row (by rfl) 40 40 (.tmp 79) (.tmp 80) rfl (mkE 32 (by omega)).cells.toArray (mkE 32 (by omega)).cells.toArray rfl rfl (by kernel_rfl) true (eqE_run _) ?_; simp only [Act.put, List.setIfInBounds_toArray, List.set_cons_succ, List.set_cons_zero])
        | (go_big_quiet_want; go_big_quiet_op; refine ⟨_, fun _ _ => by with_reducible rfl, ?_⟩; go_big_quiet_on)
        | go_big_quiet_step ((intro hC; first
            | (go_at_call 15; with_reducible exact (TW.out _ hC).mono fun _ _ h => ⟨h.1, hC.call h.2⟩)
            | (go_at_call 16; with_reducible exact (RWR.out _).mono fun _ _ h => ⟨h.1, hC.call h.2⟩)
            | (go_at_call 17; with_reducible exact (EW.out _ hC).mono fun _ _ h => ⟨h.1, hC.call h.2⟩)
            | (go_at_call 18; with_reducible exact (rEmpty_r _).mono fun _ _ h => ⟨h.1, hC.call h.2⟩)
            | fail)))
      refine wpQuiet_nil ?_
      intro wz hC
      have HZ9 := Lib.hid (H11.out.call hC.below)
      clear hC
      go_wp2_with fail
      go_ret
      exact ⟨rfl, HZ9.out.below⟩
end Go.Proofs.YtfmidmhbnpincaaDoor
