/- TreeRoots' walk. Written by genL7a.py. -/
import Derived.Test.YtfmidmhbnpincaaDoorTreeT
namespace Go.Proofs.YtfmidmhbnpincaaDoor
open Go.RowKit
set_option maxRecDepth 100000 in
set_option maxHeartbeats 2000000 in
theorem troots_walk (HA : AppTOk) (HO : OfTOk) (HT : RotTOk) (A : Option Addr) (c : Nat) (l : List K32) (w : World) (hl : RowIn encK 32 w w.heap.size A c l) (hR : Roots w) :
    Calls Tryd.prog 4 #[.slice A l.length c] w fun e w' => e = .returned (.bool true) ∧ Below w.heap.size w w' := by
  unfold OfTOk at HO
  unfold RotTOk at HT
  have hle := hl.le
  have hmx := hl.max
  have SH := Lib.hid (fun W h => tshown_any HA W h)
  have HL := Lib.hid hl
  have RR := Lib.hid (Roots.on hR)
  have R0 := Lib.hid hR
  by_cases h60 : 60 < l.length
  · have hd : decide ((60 : Int) < (l.length : Int)) = true := by simp; omega
    clear hl hR hle hmx
    go_enter Tryd.func4, Tryd.ntmps4
    go_wp2_with fail
    refine (SH.out _ R0.out).mono ?_
    rintro e w1 ⟨rfl, b1⟩
    go_wp2_with fail
    go_ret
    exact ⟨rfl, b1⟩
  · have hd : decide ((60 : Int) < (l.length : Int)) = false := by simp; omega
    have h32 : l.length < 4294967296 := by omega
    have H60 := Lib.hid (show l.length ≤ 60 by omega)
    obtain ⟨x, hx⟩ : ∃ x, ofT l h32 = x := ⟨_, rfl⟩
    have HX := Lib.hid hx
    have HRT := Lib.hid (show rtK x 32 = atK 32 l by rw [← hx]; exact rootV_of pairK zeroKey l h32)
    obtain ⟨kr, hkr⟩ : ∃ kr, atK 32 l = kr := ⟨_, rfl⟩
    have HKR := Lib.hid hkr
    rw [hkr] at HRT
    obtain ⟨Z, hZ, hz, hzs, hzn⟩ := zero_of zeroTr_ok zT_size
    have HS := Lib.hid hzs
    clear hl hR hle hmx hx hkr hZ hzs
    go_enter Tryd.func4, Tryd.ntmps4
    go_wp2_with fail
    refine (SH.out _ R0.out).mono ?_
    rintro e w1 ⟨rfl, b1⟩
    have B1 := Lib.hid b1
    go_wp2_with fail
    refine (HO A c l (by have := H60.out; omega) w1 ((HL.out.below b1).more b1.size) (RR.out _ b1)).mono ?_
    rintro e w2 ⟨rfl, b2⟩
    rw [HX.out]
    have H2 := Lib.hid (((Holds.nil w).call b1).call b2)
    clear b1 b2 B1
    go_wp2_with ((with_reducible refine at_store 3 13 ?_); refine tyTr.wpList_store rfl (.tmp 3) (.tmp 13) rfl rfl w2.heap.size x rfl rfl 27 Z (Blk.new w2 27 Z) (by rw [HS.out]) ?_; intro w3 o3 b3
                 have H3 := Lib.hid (H2.out.put o3 b3)
                 clear o3 b3)
    have RW := Lib.hid (fun (W : World) (hC : From w3 W) => RR.out W (H3.out.call hC.below).below)
    have LW := Lib.hid (fun (W : World) (hC : From w3 W) => (HL.out.below (H3.out.call hC.below).below).more (H3.out.call hC.below).below.size)
    have XW := Lib.hid (fun (W : World) (hC : From w3 W) => show RowC W w2.heap.size 0 x.cells from RowC.of_blk ((H3.out.call hC.below).at (List.mem_cons_self ..)))
    have OW := Lib.hid (fun (W : World) (hC : From w3 W) => show Calls Tryd.prog 20 #[.slice A l.length c] W fun e w' => e = .returned (.agg x.cells.toArray) ∧ Below W.heap.size W w' from by
      have := rOf_r A c l W (LW.out W hC) (by have := H60.out; omega)
      rwa [HX.out] at this)
    have TW := Lib.hid (fun (W : World) (hC : From w3 W) => show Calls Tryd.prog 15 #[.agg x.cells.toArray] W fun e w' => e = .returned (.agg (encK kr).toArray) ∧ Below W.heap.size W w' from by
      have := HT x W (RW.out W hC)
      rwa [HRT.out] at this)
    have AW := Lib.hid (fun (W : World) (hC : From w3 W) => show Calls Tryd.prog 21 #[.slice A l.length c, .int .i64 32] W fun e w' => e = .returned (.agg (encK kr).toArray) ∧ Below W.heap.size W w' from by
      have := rAt_r 32 (by omega) A c l W (LW.out W hC) (by have := H60.out; omega)
      rwa [HKR.out] at this)
    clear hz hzn HL RR R0
    refine wp_region_from (by kernel_rfl) (by kernel_rfl) ?_
    repeat (first
      | go_big_quiet_skip
      | ((with_reducible refine at_qload 3 ?_); refine tyTr.wpQuiet_load (by rfl) (.tmp 3) rfl w2.heap.size 0 rfl x XW.out ?_; simp only [Act.put, List.setIfInBounds_toArray, List.set_cons_succ, List.set_cons_zero])
      | ((with_reducible refine at_qeql 14 16 ?_); refine wpQuiet_eql_row (by rfl) 33 33 (.tmp 14) (.tmp 16) rfl x.cells.toArray x.cells.toArray rfl rfl (by kernel_rfl) true (eqRf_run x) ?_; simp only [Act.put, List.setIfInBounds_toArray, List.set_cons_succ, List.set_cons_zero])
      | ((with_reducible refine at_qeql 20 22 ?_); refine wpQuiet_eql_row (by rfl) 24 24 (.tmp 20) (.tmp 22) rfl (encK kr).toArray (encK kr).toArray rfl rfl (by kernel_rfl) true (fun V => (eqKy_run _ _ V).trans (by simp)) ?_; simp only [Act.put, List.setIfInBounds_toArray, List.set_cons_succ, List.set_cons_zero])
      | (go_big_quiet_want; go_big_quiet_op; refine ⟨_, fun _ _ => by with_reducible rfl, ?_⟩; go_big_quiet_on)
      | go_big_quiet_step ((intro hC; first
          | (go_at_call 20; with_reducible exact (OW.out _ hC).mono fun _ _ h => ⟨h.1, hC.call h.2⟩)
          | (go_at_call 15; with_reducible exact (TW.out _ hC).mono fun _ _ h => ⟨h.1, hC.call h.2⟩)
          | (go_at_call 21; with_reducible exact (AW.out _ hC).mono fun _ _ h => ⟨h.1, hC.call h.2⟩)
          | fail)))
    refine wpQuiet_nil ?_
    intro w9 hC
    have H9 := Lib.hid (H3.out.call hC.below)
    clear hC
    go_wp2_with fail
    go_ret
    exact ⟨rfl, H9.out.below⟩
end Go.Proofs.YtfmidmhbnpincaaDoor
