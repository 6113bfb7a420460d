/- TreeParts' walk. Written by genL7e.py. -/
import Derived.Test.YtfmidmhbnpincaaDoorLTFull
namespace Go.Proofs.YtfmidmhbnpincaaDoor
open Go.RowKit
theorem bit_test0 (c n : Nat) (hc : c < 4294967296) : (bits BinOp.and IntKind.u32 ((c : Int) / 2 ^ n) 1 == 0) = !bitN c n := by
  have h1 : (c : Int) / 2 ^ n = ((c / 2 ^ n : Nat) : Int) := by
    rw [Int.natCast_ediv]
    norm_cast
  have h2 : c / 2 ^ n < 4294967296 := Nat.lt_of_le_of_lt (Nat.div_le_self _ _) hc
  rw [h1, show (1 : Int) = ((1 : Nat) : Int) from rfl, u32_and_nat _ 1 h2 (by omega), Nat.and_one_is_mod]
  unfold bitN
  rw [Bool.eq_iff_iff, beq_iff_eq, Bool.not_eq_true', decide_eq_false_iff_not]
  omega
theorem ofT_part {l : List K32} {hl : l.length < 4294967296} {w : World} {g : Nat} (h : RowC w g 0 (ofT l hl).cells) (i : Nat) (hi : i < 32) : RowC w g (1 + i * 32) (encK (ptK l i)) := by
  have := TrV.c1 (t := ofT l hl) h i hi
  have e : (ofT l hl).P[i]'(by rw [(ofT l hl).hP]; exact hi) = ptK l i := by
    apply Option.some.inj
    rw [← List.getElem?_eq_getElem]
    show (List.map (ptK l) (List.range 32))[i]? = _
    rw [List.getElem?_map, List.getElem?_range hi]
    rfl
  rwa [e] at this
set_option maxRecDepth 100000 in
set_option maxHeartbeats 4000000 in
theorem tparts_walk (HP : AppTOk) (HO : OfTOk) (A : Option Addr) (c : Nat) (l : List K32) (ka kb : K32) (w : World) (hl : RowIn encK 32 w w.heap.size A c l) (hR : Roots w) :
    Calls Tryd.prog 7 #[.slice A l.length c, .agg (encK ka).toArray, .agg (encK kb).toArray] w fun e w' => e = .returned (.bool true) ∧ Below w.heap.size w w' := by
  have SH := Lib.hid (fun W h => tshown_any HP W h)
  unfold OfTOk at HO
  have HL := Lib.hid hl
  have RR := Lib.hid (Roots.on hR)
  have H0 := Lib.hid (((Holds.nil w).box 24 (encK ka).toArray).box 24 (encK kb).toArray)
  rw [World.size_alloc] at H0
  by_cases h60 : 60 < l.length
  · have hd : decide ((60 : Int) < (l.length : Int)) = true := by simp; omega
    clear hl hR
    go_enter Tryd.func7, Tryd.ntmps7
    go_wp2_with fail
    refine (SH.out _ (RR.out _ H0.out.below)).mono ?_
    rintro e w1 ⟨rfl, b1⟩
    have H1 := Lib.hid (H0.out.call b1)
    clear b1
    go_wp2_with fail
    go_ret
    exact ⟨rfl, H1.out.below⟩
  · have hd : decide ((60 : Int) < (l.length : Int)) = false := by simp; omega
    have h32 : l.length < 4294967296 := by omega
    have H60 := Lib.hid (show l.length ≤ 60 by omega)
    obtain ⟨Z, hZ, hz, hzs, hzn⟩ := zero_of zeroTr_ok zT_size
    have HS := Lib.hid hzs
    clear hl hR hZ hzs
    go_enter Tryd.func7, Tryd.ntmps7
    go_wp2_with fail
    refine (SH.out _ (RR.out _ H0.out.below)).mono ?_
    rintro e w1 ⟨rfl, b1⟩
    have H1 := Lib.hid (H0.out.call b1)
    clear b1
    go_wp2_with fail
    refine (HO A c l (by have := H60.out; omega) w1 ((HL.out.below H1.out.below).more H1.out.below.size) (RR.out _ H1.out.below)).mono ?_
    rintro e w2 ⟨rfl, b2⟩
    have H2 := Lib.hid (H1.out.call b2)
    clear b2
    go_wp2_with ((with_reducible refine at_store 7 19 ?_); refine tyTr.wpList_store rfl (.tmp 7) (.tmp 19) rfl rfl w2.heap.size (ofT l h32) rfl rfl 27 Z (Blk.new w2 27 Z) (by rw [HS.out]) ?_; intro w3 o3 b3
                 have H3 := Lib.hid (H2.out.put o3 b3)
                 clear o3 b3)
    go_loopw [8] (fun i wr => ∃ n : Nat, n ≤ 32 ∧ i = .int .i64 n ∧ Hid (Holds w ((w2.heap.size, 27, (ofT l h32).cells.toArray) :: (w.heap.size + 1, 24, (encK kb).toArray) :: (w.heap.size, 24, (encK ka).toArray) :: []) wr)) (fun i _ => 32 - (intOf i).toNat)
    case atStart => exact ⟨0, by omega, rfl, H3⟩
    case round =>
      clear H3
      obtain ⟨n, hn, rfl, AS⟩ := hrel
      by_cases hlt : n < 32
      · have hd : decide ((n : Int) < 32) = true := by simp; omega
        have KX := AS.out.at (x := (w2.heap.size, 27, (ofT l h32).cells.toArray)) (by simp)
        have c0 : wr.cell? ⟨w2.heap.size, 0, none⟩ = some (.int .u32 l.length) := TrV.c0 (t := ofT l h32) (RowC.of_blk KX)
        have hbt := bit_test0 l.length n h32
        have hge : (0 : Int) ≤ (n : Int) := by omega
        have hi1 : (n : Int) < 32 := by omega
        cases hb : bitN l.length n with
        | true =>
          rw [hb, Bool.not_true] at hbt
          clear KX hb
          go_wp2_with fail
          go_roundw
          case rel => exact ⟨n + 1, by omega, by go_num, AS⟩
          case measure => simp [intOf]; omega
        | false =>
          rw [hb, Bool.not_false] at hbt
          have PX := Lib.hid (show RowC wr w2.heap.size (1 + n * 32) (encK zeroKey) from by
            have := ofT_part (RowC.of_blk KX) n hlt
            rwa [show ptK l n = zeroKey from part_none pairK zeroKey l n hb] at this)
          clear KX hb
          go_wp2_with (first
            | ((with_reducible refine at_loadg 33 ?_); refine tyKc.wpList_load (by rfl) (.tmp 33) rfl w2.heap.size (1 + n * 32) rfl zeroKey PX.out ?_)
            | ((with_reducible refine at_build 35 ?_); refine wpList_unguard (by rfl) (wpList_built rfl 24 #[] rfl (encK zeroKey).toArray (by kernel_rfl) ?_))
            | ((with_reducible refine at_neqlg 34 35 ?_); refine wpList_neq_rowg (by rfl) 24 24 (.tmp 34) (.tmp 35) rfl (encK zeroKey).toArray (encK zeroKey).toArray rfl rfl (by kernel_rfl) true (fun V => (eqKy_run _ _ V).trans (by simp)) ?_; simp only [Act.put, List.setIfInBounds_toArray, List.set_cons_succ, List.set_cons_zero, Bool.not_true]))
          go_roundw
          case rel => exact ⟨n + 1, by omega, by go_num, AS⟩
          case measure => simp [intOf]; omega
      · obtain rfl : n = 32 := by omega
        have hd : decide (((32 : Nat) : Int) < 32) = false := by simp
        have H3 := Lib.hid AS.out
        clear AS
        go_wp2_with (first
          | ((with_reducible refine at_load 4 ?_); refine tyKc.wpList_load rfl (.tmp 4) rfl w.heap.size 0 rfl ka (RowC.of_blk (H3.out.at (x := (w.heap.size, 24, (encK ka).toArray)) (by simp))) ?_)
          | ((with_reducible refine at_load 5 ?_); refine tyKc.wpList_load rfl (.tmp 5) rfl (w.heap.size + 1) 0 rfl kb (RowC.of_blk (H3.out.at (x := (w.heap.size + 1, 24, (encK kb).toArray)) (by simp))) ?_)
          | ((with_reducible refine at_buildSlice 40 ?_); refine tyKy.wpList_build rfl zsKy 2 _ rfl [ka, kb] rfl (by omega) (by omega) (by kernel_rfl) ?_
             have H4 := Lib.hid (H3.out.box 24 (cellsOf encK [ka, kb]).toArray)))
        refine (HO (some ⟨wr.heap.size, 0, none⟩) 2 [ka, kb] (by simp) _ ⟨Nat.le_refl _, (by decide), fun _ => ⟨wr.heap.size, 0, rfl, by simp, RowC.of_blk (Blk.new _ _ _)⟩⟩ (RR.out _ H4.out.below)).mono ?_
        rintro e w6 ⟨rfl, b6⟩
        have H5 := Lib.hid (H4.out.call b6)
        clear b6
        go_wp2_with ((with_reducible refine at_store 9 41 ?_); refine tyTr.wpList_store rfl (.tmp 9) (.tmp 41) rfl rfl w6.heap.size (ofT [ka, kb] (by simp)) rfl rfl 27 Z (Blk.new w6 27 Z) (by rw [HS.out]) ?_; intro w7 o7 b7
                     have H6 := Lib.hid (H5.out.put o7 b7)
                     clear o7 b7)
        have BW := Lib.hid (fun (W : World) (hC : From w7 W) => show RowC W w6.heap.size 0 (ofT [ka, kb] (by simp)).cells from RowC.of_blk ((H6.out.call hC.below).at (x := (w6.heap.size, 27, (ofT [ka, kb] (by simp)).cells.toArray)) (by simp)))
        have AW := Lib.hid (fun (W : World) (hC : From w7 W) => show RowC W w.heap.size 0 (encK ka) from RowC.of_blk ((H6.out.call hC.below).at (x := (w.heap.size, 24, (encK ka).toArray)) (by simp)))
        have KW := Lib.hid (fun (W : World) (hC : From w7 W) => show RowC W (w.heap.size + 1) 0 (encK kb) from RowC.of_blk ((H6.out.call hC.below).at (x := (w.heap.size + 1, 24, (encK kb).toArray)) (by simp)))
        have P1 := Lib.hid (fun (W : World) (hC : From w7 W) => show RowC W w6.heap.size 33 (encK (pairK ka kb)) from by
          have := ofT_part (BW.out W hC) 1 (by omega)
          rwa [show ptK [ka, kb] 1 = pairK ka kb from by
            have h1 := part_half pairK zeroKey [ka, kb] 0 (by simp)
            rw [part_pow pairK zeroKey _ 0 (by simp), part_pow pairK zeroKey _ 0 (by simp)] at h1
            exact h1] at this)
        have P0 := Lib.hid (fun (W : World) (hC : From w7 W) => show RowC W w6.heap.size 1 (encK zeroKey) from by
          have := ofT_part (BW.out W hC) 0 (by omega)
          rwa [show ptK [ka, kb] 0 = zeroKey from part_low pairK zeroKey [ka, kb] 0 (by simp)] at this)
        have C2 := Lib.hid (fun (W : World) (hC : From w7 W) => show W.cell? ⟨w6.heap.size, 0, none⟩ = some (.int .u32 2) from TrV.c0 (t := ofT [ka, kb] (by simp)) (BW.out W hC))
        obtain ⟨kp, hkp⟩ : ∃ kp, pairK ka kb = kp := ⟨_, rfl⟩
        have PR := Lib.hid (fun W => rPair_r ka kb W)
        rw [hkp] at P1 PR
        clear hkp hz hzn
        refine wp_region_from (by kernel_rfl) (by kernel_rfl) ?_
        repeat (first
          | go_big_quiet_skip
          | ((with_reducible refine at_qload 43 ?_); refine tyKc.wpQuiet_load (by rfl) (.tmp 43) rfl w6.heap.size 33 rfl kp P1.out ?_; simp only [Act.put, List.setIfInBounds_toArray, List.set_cons_succ, List.set_cons_zero])
          | ((with_reducible refine at_qload 4 ?_); refine tyKc.wpQuiet_load (by rfl) (.tmp 4) rfl w.heap.size 0 rfl ka AW.out ?_; simp only [Act.put, List.setIfInBounds_toArray, List.set_cons_succ, List.set_cons_zero])
          | ((with_reducible refine at_qload 5 ?_); refine tyKc.wpQuiet_load (by rfl) (.tmp 5) rfl (w.heap.size + 1) 0 rfl kb KW.out ?_; simp only [Act.put, List.setIfInBounds_toArray, List.set_cons_succ, List.set_cons_zero])
          | ((with_reducible refine at_qload 51 ?_); refine tyKc.wpQuiet_load (by rfl) (.tmp 51) rfl w6.heap.size 1 rfl zeroKey P0.out ?_; simp only [Act.put, List.setIfInBounds_toArray, List.set_cons_succ, List.set_cons_zero])
          | ((with_reducible refine at_qload 57 ?_); refine wpQuiet_load_one (by rfl) 22 (.tmp 57) rfl ⟨w6.heap.size, 0, none⟩ rfl (.int .u32 2) Tryd.isAgg22 C2.out ?_; simp only [Act.put, List.setIfInBounds_toArray, List.set_cons_succ, List.set_cons_zero])
          | ((with_reducible refine at_qeql 44 47 ?_); refine wpQuiet_eql_row (by rfl) 24 24 (.tmp 44) (.tmp 47) rfl (encK kp).toArray (encK kp).toArray rfl rfl (by kernel_rfl) true (fun V => (eqKy_run _ _ V).trans (by simp)) ?_; simp only [Act.put, List.setIfInBounds_toArray, List.set_cons_succ, List.set_cons_zero])
          | ((with_reducible refine at_qeql 52 53 ?_); refine wpQuiet_eql_row (by rfl) 24 24 (.tmp 52) (.tmp 53) rfl (encK zeroKey).toArray (encK zeroKey).toArray rfl rfl (by kernel_rfl) true (fun V => (eqKy_run _ _ V).trans (by simp)) ?_; simp only [Act.put, List.setIfInBounds_toArray, List.set_cons_succ, List.set_cons_zero])
          | ((with_reducible refine at_qbuild 53 ?_); refine wpQuiet_built (by rfl) 24 #[] rfl (encK zeroKey).toArray (by kernel_rfl) ?_; simp only [Act.put, List.setIfInBounds_toArray, List.set_cons_succ, List.set_cons_zero])
          | (go_big_quiet_want; go_big_quiet_op; refine ⟨_, fun _ _ => by with_reducible rfl, ?_⟩; go_big_quiet_on)
          | go_big_quiet_step ((intro hC; first
              | (go_at_call 22; with_reducible exact (PR.out _).mono fun _ _ h => ⟨h.1, hC.call h.2⟩)
              | fail)))
        refine wpQuiet_nil ?_
        intro wz hC
        have HZ9 := Lib.hid (H6.out.call hC.below)
        clear hC
        go_wp2_with fail
        go_ret
        exact ⟨rfl, HZ9.out.below⟩
end Go.Proofs.YtfmidmhbnpincaaDoor
