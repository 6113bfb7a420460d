/- The walks of layer 15's laws; the law's shown. Written by genLVd.py. -/
import Derived.Test.YthepiegaoekccaaVdB
namespace Go.Proofs.Ythepiegaoekccaa
open Go.RowKit
def vi64o (n : Int) : Prop := -9223372036854775808 ≤ n ∧ n ≤ 9223372036854775807
def OLookOk : Prop := ∀ (A : Option Addr) (c : Nat) (l : List VdV) (id : K32) (it : Int) (w : World), RowIn encVd 34 w w.heap.size A c l → l.length ≤ 1500 → vi64o it → Calls Try.prog 12 #[.slice A l.length c, .agg (encK id).toArray, .int .i64 it] w fun e w' => e = .returned (.bool (lookF l id it)) ∧ Below w.heap.size w w'
def OAllOk : Prop := ∀ (A : Option Addr) (c : Nat) (l : List VdV) (id : K32) (n : Int) (w : World), RowIn encVd 34 w w.heap.size A c l → l.length ≤ 1500 → vi64o n → Calls Try.prog 15 #[.slice A l.length c, .agg (encK id).toArray, .int .i64 n] w fun e w' => e = .returned (.bool (allVd l id n)) ∧ Below w.heap.size w w'
def OGoodOk : Prop := ∀ (id : K32) (n : Int) (w : World), vi64o n → Calls Try.prog 8 #[.agg (encK id).toArray, .int .i64 n] w fun e w' => ∃ A c, e = .returned (.slice A (goodF id n).length c) ∧ RowIn encVd 34 w' w'.heap.size A c (goodF id n) ∧ Below w.heap.size w w'
def OItemsOk : Prop := ∀ (a : TxA) (w : World), a.In w w.heap.size → Calls Try.prog 10 #[.agg a.cells.toArray] w fun e w' => e = .returned (.int .i64 (itemsF a.T)) ∧ Below w.heap.size w w'
def vk1 : K32 := ⟨1 :: List.replicate 31 0, by simp⟩
theorem vk_good : goodF vk1 2 = goodL vk1 2 := rfl
theorem vk_one : lookF (goodL vk1 2) vk1 1 = true := by decide +kernel
theorem vk_two : lookF (goodL vk1 2) vk1 2 = false := by decide +kernel
theorem vk_nil : allVd [] zeroKey 0 = true := by decide +kernel
set_option maxRecDepth 20000 in
set_option maxHeartbeats 8000000 in
theorem vshown_any (HLO : OLookOk) (HAL : OAllOk) (HGO : OGoodOk) (w : World) : Calls Try.prog 7 #[] w fun e w' => e = .returned (.bool true) ∧ Below w.heap.size w w' := by
  have HG := Lib.hid (fun W => vk_good ▸ HGO vk1 2 W ⟨by decide, by decide⟩)
  have H1 := Lib.hid (fun A c W h => vk_one ▸ HLO A c (goodL vk1 2) vk1 1 W h (by decide) ⟨by decide, by decide⟩)
  have H2 := Lib.hid (fun A c W h => vk_two ▸ HLO A c (goodL vk1 2) vk1 2 W h (by decide) ⟨by decide, by decide⟩)
  have H3 := Lib.hid (fun W => vk_nil ▸ HAL none 0 [] zeroKey 0 W (RowIn.nil (Nat.zero_le _)) (by decide) ⟨by decide, by decide⟩)
  clear HLO HAL HGO
  go_enter Try.func7, Try.ntmps7
  go_wp2_with ((with_reducible refine at_build 2 ?_); try refine wpList_unguard (by rfl) ?_; refine wpList_built rfl 27 #[(0, .const (.int .u8 1))] rfl (encK vk1).toArray (by kernel_rfl) ?_)
  refine (HG.out _).mono ?_
  rintro e w1 ⟨A1, c1, rfl, r1, b1⟩
  have R1 := Lib.hid r1
  have B1 := Lib.hid b1
  clear r1 b1
  go_wp2_with (first
    | ((with_reducible refine at_build 9 ?_); try refine wpList_unguard (by rfl) ?_; refine wpList_built rfl 27 #[(0, .const (.int .u8 1))] rfl (encK vk1).toArray (by kernel_rfl) ?_)
    | ((with_reducible refine at_build 14 ?_); try refine wpList_unguard (by rfl) ?_; refine wpList_built rfl 27 #[(0, .const (.int .u8 1))] rfl (encK vk1).toArray (by kernel_rfl) ?_)
    | ((with_reducible refine at_build 19 ?_); try refine wpList_unguard (by rfl) ?_; refine wpList_built rfl 27 #[] rfl (encK zeroKey).toArray (by kernel_rfl) ?_)
    | (go_at_call 12; first
       | (refine (H1.out A1 c1 w1 R1.out).mono ?_; rintro e w2 ⟨rfl, b2⟩; have B2 := Lib.hid (B1.out.trans (b2.mono B1.out.size)); have R2 := Lib.hid ((R1.out.below b2).more b2.size); clear b2 R1)
       | (refine (H2.out A1 c1 w2 R2.out).mono ?_; rintro e w3 ⟨rfl, b3⟩; have B3 := Lib.hid (B2.out.trans (b3.mono B2.out.size)); clear b3))
    | (go_at_call 15; refine (H3.out _).mono ?_; rintro e w4 ⟨rfl, b4⟩; have B4 := Lib.hid (B3.out.trans (b4.mono B3.out.size)); clear b4))
  go_ret
  exact ⟨rfl, B4.out⟩
theorem wf_u8v (z : IntV .u8) : 0 ≤ z.1 ∧ z.1 < 256 := by
  have := z.2
  simp [Lit.wf, IntKind.min, IntKind.max, IntKind.signed, IntKind.bits] at this
  omega
set_option maxRecDepth 20000 in
set_option maxHeartbeats 8000000 in
theorem vdTells_h (HLO : OLookOk) (HAL : OAllOk) (HGO : OGoodOk) (_ : OItemsOk) (A : Option Addr) (c : Nat) (l : List VdV) (t : TxA) (id : K32) (it : IntV .i64) (k : IntV .u8) (w : World) (_ : RowIn encVd 34 w w.heap.size A c l) (_ : t.In w w.heap.size) (hn : 200 < l.length) :
    Calls Try.prog 3 #[.slice A l.length c, .agg t.cells.toArray, .agg (encK id).toArray, .int .i64 it.1, .int .u8 k.1] w fun e w' => e = .returned (.bool true) ∧ Below w.heap.size w w' := by
  have SH := Lib.hid (fun W => vshown_any HLO HAL HGO W)
  have H0 := Lib.hid (show Holds w [(w.heap.size + 1, 27, (encK id).toArray), (w.heap.size, 30, t.cells.toArray)] ((w.alloc (.cells t.cells.toArray 30)).alloc (.cells (encK id).toArray 27)) from by
    have := ((Holds.nil w).box 30 t.cells.toArray).box 27 (encK id).toArray
    simpa only [World.size_alloc, Nat.add_assoc] using this)
  have hd : decide ((200 : Int) < (l.length : Int)) = true := by simp; omega
  clear HLO HAL HGO hn
  go_enter Try.func3, Try.ntmps3
  go_wp2_with fail
  refine (SH.out _).mono ?_
  rintro e w1 ⟨rfl, b1⟩
  have H1 := Lib.hid (H0.out.call b1)
  clear b1
  go_wp2_with fail
  go_ret
  exact ⟨rfl, H1.out.below⟩
set_option maxRecDepth 20000 in
set_option maxHeartbeats 8000000 in
theorem vdTells_m (HLO : OLookOk) (HAL : OAllOk) (HGO : OGoodOk) (HIT : OItemsOk) (A : Option Addr) (c : Nat) (l : List VdV) (t : TxA) (id : K32) (it : IntV .i64) (k : IntV .u8) (w : World) (hl : RowIn encVd 34 w w.heap.size A c l) (ht : t.In w w.heap.size) (hn : l.length ≤ 200) :
    Calls Try.prog 3 #[.slice A l.length c, .agg t.cells.toArray, .agg (encK id).toArray, .int .i64 it.1, .int .u8 k.1] w fun e w' => e = .returned (.bool true) ∧ Below w.heap.size w w' := by
  have SH := Lib.hid (fun W => vshown_any HLO HAL HGO W)
  have H0 := Lib.hid (show Holds w [(w.heap.size + 1, 27, (encK id).toArray), (w.heap.size, 30, t.cells.toArray)] ((w.alloc (.cells t.cells.toArray 30)).alloc (.cells (encK id).toArray 27)) from by
    have := ((Holds.nil w).box 30 t.cells.toArray).box 27 (encK id).toArray
    simpa only [World.size_alloc, Nat.add_assoc] using this)
  have hd : decide ((200 : Int) < (l.length : Int)) = false := by simp; omega
  obtain ⟨m, hm⟩ : ∃ m, it.1.tmod 1200 = m := ⟨_, rfl⟩
  have hir := wf_i64.1 it.2
  have hmr : -1200 < m ∧ m < 1200 := by
    have h1 := Int.tmod_lt_of_pos it.1 (show (0 : Int) < 1200 by decide)
    have h2 := Int.lt_tmod_of_pos it.1 (show (0 : Int) < 1200 by decide)
    omega
  obtain ⟨G, hG⟩ : ∃ G, goodF id m = G := ⟨_, rfl⟩
  have HGL := Lib.hid (show G.length ≤ 1000 from hG ▸ goodF_len_le id m)
  have HG1 := Lib.hid (fun W => hG ▸ HGO id m W ⟨by omega, by omega⟩)
  have HG2 := Lib.hid (fun W => hG ▸ rGood_w id m W)
  have hkr := wf_u8v k
  have hkw : IntKind.i64.wrap k.1 = k.1 := by rw [IntKind.wrap_i64]; omega
  obtain ⟨x1, hx1⟩ : ∃ x, itemsF t.T = x := ⟨_, rfl⟩
  obtain ⟨x2, hx2⟩ : ∃ x, lookF l id it.1 = x := ⟨_, rfl⟩
  obtain ⟨x3, hx3⟩ : ∃ x, allVd l id k.1 = x := ⟨_, rfl⟩
  have C1 := Lib.hid (fun W (h : Below w.heap.size w W) => hx1 ▸ HIT t W (ht.on h (Nat.le_refl _)))
  have C2 := Lib.hid (fun W => hx1 ▸ rItems_w t W)
  have C3 := Lib.hid (fun A' c' W (h : RowIn encVd 34 W W.heap.size A' c' l) => hx2 ▸ HLO A' c' l id it.1 W h (by omega) ⟨by omega, by omega⟩)
  have C4 := Lib.hid (fun A' c' W (h : RowIn encVd 34 W W.heap.size A' c' l) => hx2 ▸ rLook_w A' c' l id it.1 W h (by omega))
  have C5 := Lib.hid (fun A' c' W (h : RowIn encVd 34 W W.heap.size A' c' l) => hx3 ▸ HAL A' c' l id k.1 W h (by omega) ⟨by omega, by omega⟩)
  have C6 := Lib.hid (fun A' c' W (h : RowIn encVd 34 W W.heap.size A' c' l) => hx3 ▸ rAll_w A' c' l id k.1 W h (by omega) (by omega))
  have HLL := Lib.hid (show ∀ W, Below w.heap.size w W → RowIn encVd 34 W W.heap.size A c l from fun W h => (hl.below h).more h.size)
  have HN := Lib.hid hn
  clear HLO HAL HGO HIT hl ht hn hG hx1 hx2 hx3
  go_enter Try.func3, Try.ntmps3
  go_wp2_with fail
  refine (SH.out _).mono ?_
  rintro e w1 ⟨rfl, b1⟩
  have H1 := Lib.hid (H0.out.call b1)
  clear b1 H0
  go_wp2_with ((with_reducible refine at_load 7 ?_); refine tyKc.wpList_load rfl (.tmp 7) rfl (w.heap.size + 1) 0 rfl id (RowC.of_blk (H1.out.at (x := (w.heap.size + 1, 27, (encK id).toArray)) (by simp))) ?_)
  refine (HG1.out _).mono ?_
  rintro e w2 ⟨A2, c2, rfl, r2, b2⟩
  have H2 := Lib.hid (H1.out.call b2)
  have R2 := Lib.hid r2
  clear b2 r2 H1
  go_wp2_with ((with_reducible refine at_load 7 ?_); refine tyKc.wpList_load rfl (.tmp 7) rfl (w.heap.size + 1) 0 rfl id (RowC.of_blk (H2.out.at (x := (w.heap.size + 1, 27, (encK id).toArray)) (by simp))) ?_)
  refine (HG2.out _).mono ?_
  rintro e w3 ⟨A3, c3, rfl, r3, b3⟩
  have H3 := Lib.hid (H2.out.call b3)
  have R3 := Lib.hid (And.intro ((R2.out.below b3).more b3.size) r3)
  clear b3 r3 R2 H2 HG1 HG2 hm
  have hgl : G.length ≤ 9223372036854775807 := by have := HGL.out; omega
  go_wp2_with fail
  go_loopw [13] (fun si wr => ∃ j : Nat, si = .int .i64 j ∧ j ≤ G.length ∧ Hid (Holds w [(w.heap.size + 1, 27, (encK id).toArray), (w.heap.size, 30, t.cells.toArray)] wr) ∧ Hid (RowIn encVd 34 wr wr.heap.size A2 c2 G ∧ RowIn encVd 34 wr wr.heap.size A3 c3 G)) (fun si _ => G.length - (intOf si).toNat)
  case atStart => exact ⟨0, rfl, Nat.zero_le _, H3, R3⟩
  case round =>
    clear H3 R3
    obtain ⟨j, rfl, hj, HH, RR⟩ := hrel
    by_cases hlt : j < G.length
    · have hd : decide ((j : Int) < (G.length : Int)) = true := by simp; omega
      have hi0 : (0 : Int) ≤ (j : Int) := by omega
      have hi1 : (j : Int) < (G.length : Int) := by omega
      obtain ⟨g7, o7, hA7, hg7, hc7⟩ := RR.out.1.at encVd_len hlt
      obtain ⟨g8, o8, hA8, hg8, hc8⟩ := RR.out.2.at encVd_len hlt
      obtain ⟨x, hx⟩ : ∃ x, G[j]'hlt = x := ⟨_, rfl⟩
      rw [hx] at hc7 hc8
      subst hA7
      subst hA8
      have D7 := Lib.hid (show ∀ W, From wr W → RowC W g7 (o7 + j * 34) (encVd x) from fun W hC => hc7.below hC.below hg7)
      have D8 := Lib.hid (show ∀ W, From wr W → RowC W g8 (o8 + j * 34) (encVd x) from fun W hC => hc8.below hC.below hg8)
      have HLT := Lib.hid hlt
      clear hc7 hc8 hx hg7 hg8
      go_wp2_with fail
      refine wp_region_from (by kernel_rfl) (by kernel_rfl) ?_
      repeat (first
        | go_big_quiet_skip
        | ((with_reducible refine at_qload 43 ?_); refine tyVdc.wpQuiet_load (by rfl) (.tmp 43) rfl (g7) (o7 + j * 34) rfl x (D7.out) ?_; simp only [Act.put, List.setIfInBounds_toArray, List.set_cons_succ, List.set_cons_zero])
        | ((with_reducible refine at_qload 47 ?_); refine tyVrc.wpQuiet_load (by rfl) (.tmp 47) rfl (g8) (o8 + j * 34) rfl x (D8.out) ?_; simp only [Act.put, List.setIfInBounds_toArray, List.set_cons_succ, List.set_cons_zero])
        | ((with_reducible refine at_qneq 44 48 ?_); refine wpQuiet_neq_row (by rfl) 36 36 (.tmp 44) (.tmp 48) rfl (encVd x).toArray (encVd x).toArray rfl rfl (by kernel_rfl) true (fun V => (eqVr_run _ _ V).trans (by simp)) ?_; simp only [Act.put, List.setIfInBounds_toArray, List.set_cons_succ, List.set_cons_zero])
        | (go_big_quiet_want; go_big_quiet_op; refine ⟨_, fun _ _ => by with_reducible rfl, ?_⟩; go_big_quiet_on)
        | go_big_quiet_step (fail))
      refine wpQuiet_nil ?_
      intro w9 hC
      have H9 := Lib.hid (HH.out.call hC.below)
      have R9 := Lib.hid (And.intro ((RR.out.1.below hC.below).more hC.below.size) ((RR.out.2.below hC.below).more hC.below.size))
      clear hC D7 D8 HH RR
      go_wp2_with fail
      go_roundw
      case rel => exact ⟨j + 1, by go_num, HLT.out, H9, R9⟩
      case measure => have := HLT.out; simp [intOf]; omega
    · have hd : decide ((j : Int) < (G.length : Int)) = false := by simp; omega
      obtain rfl : j = G.length := by omega
      clear hj hlt RR hgl
      go_wp2_with fail
      refine wp_region_held_drew (S := Holds w [(w.heap.size + 1, 27, (encK id).toArray), (w.heap.size, 30, t.cells.toArray)]) (by kernel_rfl) (HH.out.call (Below.refl _ _).drew) ?_
      intro hS
      refine wpAnyH_take (i := 0) (v := .agg t.cells.toArray) rfl (by kernel_rfl) (by kernel_rfl) (by kernel_rfl) (fun _ _ _ h => h) (tyTx.yieldsIf_load (by rfl) (.tmp 6) rfl w.heap.size 0 rfl t (fun _ h => RowC.of_blk (h.at (x := (w.heap.size, 30, t.cells.toArray)) (by simp)))) hS ?_
      simp only [Act.put, List.getElem_toArray, List.getElem_cons_zero, List.setIfInBounds_toArray, List.set_cons_succ, List.set_cons_zero]
      refine wpAnyH_take (i := 2) (v := .agg t.cells.toArray) rfl (by kernel_rfl) (by kernel_rfl) (by kernel_rfl) (fun _ _ _ h => h) (tyTx.yieldsIf_load (by rfl) (.tmp 6) rfl w.heap.size 0 rfl t (fun _ h => RowC.of_blk (h.at (x := (w.heap.size, 30, t.cells.toArray)) (by simp)))) hS ?_
      simp only [Act.put, List.getElem_toArray, List.getElem_cons_zero, List.getElem_cons_succ, List.setIfInBounds_toArray, List.set_cons_succ, List.set_cons_zero]
      refine wpAnyH_ready (rs := [1]) (by kernel_rfl) (by simp) ?_
      refine AllReadyH.cons rfl (fun Kq hK => ?_) AllReadyH.nil
      go_simp
      with_reducible refine (C1.out _ hS.below).mono ?_
      rintro e y1 ⟨rfl, bq⟩
      refine hK.out _ _ (hS.call bq) (fun hS => ?_)
      clear hK Kq bq
      try simp only [Act.put, List.getElem_toArray, List.getElem_cons_zero, List.getElem_cons_succ, List.setIfInBounds_toArray, List.set_cons_succ, List.set_cons_zero]
      refine wpAnyH_ready (rs := [3]) (by kernel_rfl) (by simp) ?_
      refine AllReadyH.cons rfl (fun Kq hK => ?_) AllReadyH.nil
      go_simp
      with_reducible refine (C2.out _).mono ?_
      rintro e y3 ⟨rfl, bq⟩
      refine hK.out _ _ (hS.call bq) (fun hS => ?_)
      clear hK Kq bq
      try simp only [Act.put, List.getElem_toArray, List.getElem_cons_zero, List.getElem_cons_succ, List.setIfInBounds_toArray, List.set_cons_succ, List.set_cons_zero]
      refine wpAnyH_take (i := 4) (v := .bool true) rfl (by kernel_rfl) (by kernel_rfl) (by kernel_rfl) (fun _ _ _ h => h) (Or.inl ⟨by rfl, fun W _ => by go_simp; try with_reducible rfl⟩) hS ?_
      simp only [Act.put, List.getElem_toArray, List.getElem_cons_zero, List.getElem_cons_succ, List.setIfInBounds_toArray, List.set_cons_succ, List.set_cons_zero]
      refine wpAnyH_take (i := 5) (v := .bool true) rfl (by kernel_rfl) (by kernel_rfl) (by kernel_rfl) (fun _ _ _ h => h) (Or.inl ⟨by rfl, fun W _ => by go_simp; try with_reducible rfl⟩) hS ?_
      simp only [Act.put, List.getElem_toArray, List.getElem_cons_zero, List.getElem_cons_succ, List.setIfInBounds_toArray, List.set_cons_succ, List.set_cons_zero]
      refine wpAnyH_take (i := 6) (v := .slice A l.length c) rfl (by kernel_rfl) (by kernel_rfl) (by kernel_rfl) (fun _ _ _ h => h) (Or.inl ⟨by rfl, fun W _ => by go_simp; try with_reducible rfl⟩) hS ?_
      simp only [Act.put, List.getElem_toArray, List.getElem_cons_zero, List.getElem_cons_succ, List.setIfInBounds_toArray, List.set_cons_succ, List.set_cons_zero]
      refine wpAnyH_take (i := 7) (v := .agg (encK id).toArray) rfl (by kernel_rfl) (by kernel_rfl) (by kernel_rfl) (fun _ _ _ h => h) (tyKc.yieldsIf_load (by rfl) (.tmp 7) rfl (w.heap.size + 1) 0 rfl id (fun _ h => RowC.of_blk (h.at (x := (w.heap.size + 1, 27, (encK id).toArray)) (by simp)))) hS ?_
      simp only [Act.put, List.getElem_toArray, List.getElem_cons_zero, List.getElem_cons_succ, List.setIfInBounds_toArray, List.set_cons_succ, List.set_cons_zero]
      refine wpAnyH_take (i := 8) (v := .int .i64 it.1) rfl (by kernel_rfl) (by kernel_rfl) (by kernel_rfl) (fun _ _ _ h => h) (Or.inl ⟨by rfl, fun W _ => by go_simp; try with_reducible rfl⟩) hS ?_
      simp only [Act.put, List.getElem_toArray, List.getElem_cons_zero, List.getElem_cons_succ, List.setIfInBounds_toArray, List.set_cons_succ, List.set_cons_zero]
      refine wpAnyH_take (i := 10) (v := .slice A l.length c) rfl (by kernel_rfl) (by kernel_rfl) (by kernel_rfl) (fun _ _ _ h => h) (Or.inl ⟨by rfl, fun W _ => by go_simp; try with_reducible rfl⟩) hS ?_
      simp only [Act.put, List.getElem_toArray, List.getElem_cons_zero, List.getElem_cons_succ, List.setIfInBounds_toArray, List.set_cons_succ, List.set_cons_zero]
      refine wpAnyH_take (i := 12) (v := .agg (encK id).toArray) rfl (by kernel_rfl) (by kernel_rfl) (by kernel_rfl) (fun _ _ _ h => h) (tyKc.yieldsIf_load (by rfl) (.tmp 7) rfl (w.heap.size + 1) 0 rfl id (fun _ h => RowC.of_blk (h.at (x := (w.heap.size + 1, 27, (encK id).toArray)) (by simp)))) hS ?_
      simp only [Act.put, List.getElem_toArray, List.getElem_cons_zero, List.getElem_cons_succ, List.setIfInBounds_toArray, List.set_cons_succ, List.set_cons_zero]
      refine wpAnyH_take (i := 13) (v := .int .i64 it.1) rfl (by kernel_rfl) (by kernel_rfl) (by kernel_rfl) (fun _ _ _ h => h) (Or.inl ⟨by rfl, fun W _ => by go_simp; try with_reducible rfl⟩) hS ?_
      simp only [Act.put, List.getElem_toArray, List.getElem_cons_zero, List.getElem_cons_succ, List.setIfInBounds_toArray, List.set_cons_succ, List.set_cons_zero]
      refine wpAnyH_ready (rs := [9]) (by kernel_rfl) (by simp) ?_
      refine AllReadyH.cons rfl (fun Kq hK => ?_) AllReadyH.nil
      go_simp
      with_reducible refine (C3.out _ _ _ (HLL.out _ hS.below)).mono ?_
      rintro e y9 ⟨rfl, bq⟩
      refine hK.out _ _ (hS.call bq) (fun hS => ?_)
      clear hK Kq bq
      try simp only [Act.put, List.getElem_toArray, List.getElem_cons_zero, List.getElem_cons_succ, List.setIfInBounds_toArray, List.set_cons_succ, List.set_cons_zero]
      refine wpAnyH_ready (rs := [11]) (by kernel_rfl) (by simp) ?_
      refine AllReadyH.cons rfl (fun Kq hK => ?_) AllReadyH.nil
      go_simp
      with_reducible refine (vtheirs_w A c l _ (HLL.out _ hS.below) (by have := HN.out; omega)).mono ?_
      rintro e y11 ⟨A5, c5, rfl, r5, bq⟩
      have R5 := Lib.hid r5
      clear r5
      refine hK.out _ _ (hS.call bq) (fun hS => ?_)
      clear hK Kq bq
      try simp only [Act.put, List.getElem_toArray, List.getElem_cons_zero, List.getElem_cons_succ, List.setIfInBounds_toArray, List.set_cons_succ, List.set_cons_zero]
      refine wpAnyH_ready (rs := [14]) (by kernel_rfl) (by simp) ?_
      refine AllReadyH.cons rfl (fun Kq hK => ?_) AllReadyH.nil
      go_simp
      with_reducible refine (C4.out _ _ _ R5.out).mono ?_
      rintro e y14 ⟨rfl, bq⟩
      refine hK.out _ _ (hS.call bq) (fun hS => ?_)
      clear hK Kq bq
      try simp only [Act.put, List.getElem_toArray, List.getElem_cons_zero, List.getElem_cons_succ, List.setIfInBounds_toArray, List.set_cons_succ, List.set_cons_zero]
      refine wpAnyH_take (i := 15) (v := .bool true) rfl (by kernel_rfl) (by kernel_rfl) (by kernel_rfl) (fun _ _ _ h => h) (Or.inl ⟨by rfl, fun W _ => by go_simp; try with_reducible rfl⟩) hS ?_
      simp only [Act.put, List.getElem_toArray, List.getElem_cons_zero, List.getElem_cons_succ, List.setIfInBounds_toArray, List.set_cons_succ, List.set_cons_zero]
      refine wpAnyH_take (i := 16) (v := .bool true) rfl (by kernel_rfl) (by kernel_rfl) (by kernel_rfl) (fun _ _ _ h => h) (Or.inl ⟨by rfl, fun W _ => by go_simp; try with_reducible rfl⟩) hS ?_
      simp only [Act.put, List.getElem_toArray, List.getElem_cons_zero, List.getElem_cons_succ, List.setIfInBounds_toArray, List.set_cons_succ, List.set_cons_zero]
      refine wpAnyH_take (i := 17) (v := .bool true) rfl (by kernel_rfl) (by kernel_rfl) (by kernel_rfl) (fun _ _ _ h => h) (Or.inl ⟨by rfl, fun W _ => by go_simp; try with_reducible rfl⟩) hS ?_
      simp only [Act.put, List.getElem_toArray, List.getElem_cons_zero, List.getElem_cons_succ, List.setIfInBounds_toArray, List.set_cons_succ, List.set_cons_zero]
      refine wpAnyH_take (i := 18) (v := .slice A l.length c) rfl (by kernel_rfl) (by kernel_rfl) (by kernel_rfl) (fun _ _ _ h => h) (Or.inl ⟨by rfl, fun W _ => by go_simp; try with_reducible rfl⟩) hS ?_
      simp only [Act.put, List.getElem_toArray, List.getElem_cons_zero, List.getElem_cons_succ, List.setIfInBounds_toArray, List.set_cons_succ, List.set_cons_zero]
      refine wpAnyH_take (i := 19) (v := .agg (encK id).toArray) rfl (by kernel_rfl) (by kernel_rfl) (by kernel_rfl) (fun _ _ _ h => h) (tyKc.yieldsIf_load (by rfl) (.tmp 7) rfl (w.heap.size + 1) 0 rfl id (fun _ h => RowC.of_blk (h.at (x := (w.heap.size + 1, 27, (encK id).toArray)) (by simp)))) hS ?_
      simp only [Act.put, List.getElem_toArray, List.getElem_cons_zero, List.getElem_cons_succ, List.setIfInBounds_toArray, List.set_cons_succ, List.set_cons_zero]
      refine wpAnyH_take (i := 20) (v := .int .u8 k.1) rfl (by kernel_rfl) (by kernel_rfl) (by kernel_rfl) (fun _ _ _ h => h) (Or.inl ⟨by rfl, fun W _ => by go_simp; try with_reducible rfl⟩) hS ?_
      simp only [Act.put, List.getElem_toArray, List.getElem_cons_zero, List.getElem_cons_succ, List.setIfInBounds_toArray, List.set_cons_succ, List.set_cons_zero]
      refine wpAnyH_take (i := 21) (v := .int .i64 k.1) rfl (by kernel_rfl) (by kernel_rfl) (by kernel_rfl) (fun _ _ _ h => h) (Or.inl ⟨by rfl, fun W _ => by go_simp; try with_reducible rfl⟩) hS ?_
      simp only [Act.put, List.getElem_toArray, List.getElem_cons_zero, List.getElem_cons_succ, List.setIfInBounds_toArray, List.set_cons_succ, List.set_cons_zero]
      refine wpAnyH_take (i := 23) (v := .slice A l.length c) rfl (by kernel_rfl) (by kernel_rfl) (by kernel_rfl) (fun _ _ _ h => h) (Or.inl ⟨by rfl, fun W _ => by go_simp; try with_reducible rfl⟩) hS ?_
      simp only [Act.put, List.getElem_toArray, List.getElem_cons_zero, List.getElem_cons_succ, List.setIfInBounds_toArray, List.set_cons_succ, List.set_cons_zero]
      refine wpAnyH_take (i := 25) (v := .agg (encK id).toArray) rfl (by kernel_rfl) (by kernel_rfl) (by kernel_rfl) (fun _ _ _ h => h) (tyKc.yieldsIf_load (by rfl) (.tmp 7) rfl (w.heap.size + 1) 0 rfl id (fun _ h => RowC.of_blk (h.at (x := (w.heap.size + 1, 27, (encK id).toArray)) (by simp)))) hS ?_
      simp only [Act.put, List.getElem_toArray, List.getElem_cons_zero, List.getElem_cons_succ, List.setIfInBounds_toArray, List.set_cons_succ, List.set_cons_zero]
      refine wpAnyH_take (i := 26) (v := .int .u8 k.1) rfl (by kernel_rfl) (by kernel_rfl) (by kernel_rfl) (fun _ _ _ h => h) (Or.inl ⟨by rfl, fun W _ => by go_simp; try with_reducible rfl⟩) hS ?_
      simp only [Act.put, List.getElem_toArray, List.getElem_cons_zero, List.getElem_cons_succ, List.setIfInBounds_toArray, List.set_cons_succ, List.set_cons_zero]
      refine wpAnyH_take (i := 27) (v := .int .i64 k.1) rfl (by kernel_rfl) (by kernel_rfl) (by kernel_rfl) (fun _ _ _ h => h) (Or.inl ⟨by rfl, fun W _ => by go_simp; try with_reducible rfl⟩) hS ?_
      simp only [Act.put, List.getElem_toArray, List.getElem_cons_zero, List.getElem_cons_succ, List.setIfInBounds_toArray, List.set_cons_succ, List.set_cons_zero]
      refine wpAnyH_ready (rs := [22]) (by kernel_rfl) (by simp) ?_
      refine AllReadyH.cons rfl (fun Kq hK => ?_) AllReadyH.nil
      go_simp
      with_reducible refine (C5.out _ _ _ (HLL.out _ hS.below)).mono ?_
      rintro e y22 ⟨rfl, bq⟩
      refine hK.out _ _ (hS.call bq) (fun hS => ?_)
      clear hK Kq bq
      try simp only [Act.put, List.getElem_toArray, List.getElem_cons_zero, List.getElem_cons_succ, List.setIfInBounds_toArray, List.set_cons_succ, List.set_cons_zero]
      refine wpAnyH_ready (rs := [24]) (by kernel_rfl) (by simp) ?_
      refine AllReadyH.cons rfl (fun Kq hK => ?_) AllReadyH.nil
      go_simp
      with_reducible refine (vtheirs_w A c l _ (HLL.out _ hS.below) (by have := HN.out; omega)).mono ?_
      rintro e y24 ⟨A6, c6, rfl, r6, bq⟩
      have R6 := Lib.hid r6
      clear r6
      refine hK.out _ _ (hS.call bq) (fun hS => ?_)
      clear hK Kq bq
      try simp only [Act.put, List.getElem_toArray, List.getElem_cons_zero, List.getElem_cons_succ, List.setIfInBounds_toArray, List.set_cons_succ, List.set_cons_zero]
      refine wpAnyH_ready (rs := [28]) (by kernel_rfl) (by simp) ?_
      refine AllReadyH.cons rfl (fun Kq hK => ?_) AllReadyH.nil
      go_simp
      with_reducible refine (C6.out _ _ _ R6.out).mono ?_
      rintro e y28 ⟨rfl, bq⟩
      refine hK.out _ _ (hS.call bq) (fun hS => ?_)
      clear hK Kq bq
      try simp only [Act.put, List.getElem_toArray, List.getElem_cons_zero, List.getElem_cons_succ, List.setIfInBounds_toArray, List.set_cons_succ, List.set_cons_zero]
      refine wpAnyH_take (i := 29) (v := .bool true) rfl (by kernel_rfl) (by kernel_rfl) (by kernel_rfl) (fun _ _ _ h => h) (Or.inl ⟨by rfl, fun W _ => by go_simp; try with_reducible rfl⟩) hS ?_
      simp only [Act.put, List.getElem_toArray, List.getElem_cons_zero, List.getElem_cons_succ, List.setIfInBounds_toArray, List.set_cons_succ, List.set_cons_zero]
      refine wpAnyH_take (i := 30) (v := .bool true) rfl (by kernel_rfl) (by kernel_rfl) (by kernel_rfl) (fun _ _ _ h => h) (Or.inl ⟨by rfl, fun W _ => by go_simp; try with_reducible rfl⟩) hS ?_
      simp only [Act.put, List.getElem_toArray, List.getElem_cons_zero, List.getElem_cons_succ, List.setIfInBounds_toArray, List.set_cons_succ, List.set_cons_zero]
      refine wpAnyH_ready (rs := [31]) (by kernel_rfl) (by simp) ?_
      refine AllReadyH.cons rfl (fun Kq hK => ?_) AllReadyH.nil
      go_simp
      refine hK.out _ _ hS (fun hS => ?_)
      clear hK Kq
      refine wpAnyH_done (by kernel_rfl) ?_ _
      have B9 := Lib.hid hS.below
      clear hS
      go_wp2_with fail
      go_ret
      exact ⟨by first | rfl | simp, B9.out⟩
set_option maxRecDepth 20000 in
set_option maxHeartbeats 8000000 in
theorem vdTells_walk (HLO : OLookOk) (HAL : OAllOk) (HGO : OGoodOk) (HIT : OItemsOk) (A : Option Addr) (c : Nat) (l : List VdV) (t : TxA) (id : K32) (it : IntV .i64) (k : IntV .u8) (w : World) (hl : RowIn encVd 34 w w.heap.size A c l) (ht : t.In w w.heap.size) :
    Calls Try.prog 3 #[.slice A l.length c, .agg t.cells.toArray, .agg (encK id).toArray, .int .i64 it.1, .int .u8 k.1] w fun e w' => e = .returned (.bool true) ∧ Below w.heap.size w w' := by
  by_cases h : 200 < l.length
  · exact vdTells_h HLO HAL HGO HIT A c l t id it k w hl ht h
  · exact vdTells_m HLO HAL HGO HIT A c l t id it k w hl ht (by omega)
end Go.Proofs.Ythepiegaoekccaa
