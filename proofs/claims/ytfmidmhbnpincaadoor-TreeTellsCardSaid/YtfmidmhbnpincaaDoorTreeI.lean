/- The document's root of notes at a height. Written by genTI.py. -/
import Derived.Test.YtfmidmhbnpincaaDoorTreeF
namespace Go.Proofs.YtfmidmhbnpincaaDoor
open Go.RowKit
abbrev atK (h : Nat) (l : List K32) : K32 := atR pairK zeroKey h l
/-- what lies there while At goes up from nothing -/
structure AtS (w : World) (x : K32) (W : World) : Prop where
  below : Below w.heap.size w W
  r : Blk W w.heap.size 24 (encK zeroKey).toArray
  x : Blk W (w.heap.size + 1) 24 (encK x).toArray
theorem AtS.call {w W W' : World} {x : K32} (h : AtS w x W) (hb : Below W.heap.size W W') : AtS w x W' :=
  ⟨h.below.trans (hb.mono h.below.size), below_blk hb h.r h.r.lt, below_blk hb h.x h.x.lt⟩
set_option maxRecDepth 100000 in
set_option maxHeartbeats 2000000 in
theorem rAt_nil (A : Option Addr) (c : Nat) (h : Nat) (hh : h ≤ 40) (w : World) :
    Calls Tryd.prog 21 #[.slice A 0 c, .int .i64 h] w fun e w' => e = .returned (.agg (encK (empK h)).toArray) ∧ Below w.heap.size w w' := by
  go_enter Tryd.func21, Tryd.ntmps21
  go_wp2_with (first
    | ((with_reducible refine at_build 11 ?_); refine wpList_built rfl 24 #[] rfl (encK zeroKey).toArray (by kernel_rfl) ?_)
    | ((with_reducible refine at_store 5 11 ?_); refine tyKc.wpList_store rfl (.tmp 5) (.tmp 11) rfl rfl (w.heap.size + 1) zeroKey rfl rfl 24 _ (blk_new (g := w.heap.size + 1) 24 _ (by simp)) rfl ?_; intro w2 o2 b2
       have A0 := Lib.hid (show AtS w (empK 0) w2 from ⟨(((Below.refl w.heap.size w).alloc (Nat.le_refl _) _).alloc (by simp) _).trans (o2.below (by simp)), o2.blk ((show Blk (w.alloc _) w.heap.size 24 (encK zeroKey).toArray from Blk.new w 24 (encK zeroKey).toArray).alloc _) (by simp), b2⟩)
       clear o2 b2))
  go_loopw [6] (fun i wr => ∃ n : Nat, n ≤ h ∧ i = .int .i64 n ∧ Hid (AtS w (empK n) wr)) (fun i _ => h - (intOf i).toNat)
  case atStart => exact ⟨0, by omega, rfl, A0⟩
  case round =>
    clear A0
    obtain ⟨n, hn, rfl, AS⟩ := hrel
    by_cases hlt : n < h
    · have hd : decide ((n : Int) < (h : Int)) = true := by simp; omega
      have X0 := Lib.hid (show RowC wr (w.heap.size + 1) 0 (encK (empK n)) from RowC.of_blk AS.out.x)
      go_wp2_with (first
        | ((with_reducible refine at_load 5 ?_); refine tyKc.wpList_load rfl (.tmp 5) rfl (w.heap.size + 1) 0 rfl (empK n) X0.out ?_))
      refine (rPair_r (empK n) (empK n) _).mono ?_
      rintro e x1 ⟨rfl, b1⟩
      have A1 := Lib.hid (AS.out.call b1)
      clear b1 X0 AS
      go_wp2_with ((with_reducible refine at_store 5 19 ?_); refine tyKc.wpList_store rfl (.tmp 5) (.tmp 19) rfl rfl (w.heap.size + 1) (empK (n + 1)) rfl rfl 24 _ A1.out.x (by rw [tyKc.arr]) ?_; intro w3 o3 b3
                   have A3 := Lib.hid (show AtS w (empK (n + 1)) w3 from ⟨A1.out.below.trans (o3.below (by simp)), o3.blk A1.out.r (by simp), b3⟩)
                   clear o3 b3)
      go_roundw
      case rel => exact ⟨n + 1, by omega, by go_num, A3⟩
      case measure => simp [intOf]; omega
    · obtain rfl : n = h := by omega
      have hd : decide ((n : Int) < (n : Int)) = false := by simp
      go_wp2_with (first
        | ((with_reducible refine at_load 5 ?_); refine tyKc.wpList_load rfl (.tmp 5) rfl (w.heap.size + 1) 0 rfl (empK n) (RowC.of_blk AS.out.x) ?_)
        | ((with_reducible refine at_store 4 20 ?_); refine tyKc.wpList_store rfl (.tmp 4) (.tmp 20) rfl rfl w.heap.size (empK n) rfl rfl 24 _ AS.out.r (by rw [tyKc.arr]) ?_; intro w7 o7 b7))
      exact bodyPost_ret (results_cell1 rfl _ _ w.heap.size 24 _ (0, 0) _ rfl b7 Tryd.underlying24 rfl (by rw [tyKc.arr]; kernel_rfl)) rfl ⟨rfl, AS.out.below.trans (o7.below (by simp))⟩
set_option maxRecDepth 100000 in
theorem rAt_zero (A : Option Addr) (c : Nat) (l : List K32) (w : World) (hl : RowIn encK 32 w w.heap.size A c l) (hn : 0 < l.length) :
    Calls Tryd.prog 21 #[.slice A l.length c, .int .i64 0] w fun e w' => e = .returned (.agg (encK (atK 0 l)).toArray) ∧ Below w.heap.size w w' := by
  obtain ⟨g, o, hA, hg, hc⟩ := hl.at encK_len hn
  obtain ⟨x, hx⟩ : ∃ x, l[0] = x := ⟨_, rfl⟩
  have he : atK 0 l = x := by
    cases l with
    | nil => simp at hn
    | cons a l => exact hx
  rw [hx] at hc
  rw [he]
  subst hA
  have hd : ((l.length : Int) == 0) = false := beq_eq_false_iff_ne.mpr (by omega)
  have hi : (0 : Int) < (l.length : Int) := by omega
  have C0 := Lib.hid (show RowC (w.alloc (.cells (encK zeroKey).toArray 24)) g o (encK x) from by
    have := hc.below ((Below.refl _ _).alloc (Nat.le_refl _) (.cells (encK zeroKey).toArray 24)) hg
    simpa using this)
  clear hl hc hg hx he
  go_enter Tryd.func21, Tryd.ntmps21
  go_wp2_with (first
    | ((with_reducible refine at_load 24 ?_); refine tyKc.wpList_load rfl (.tmp 24) rfl g o rfl x C0.out ?_)
    | ((with_reducible refine at_store 4 25 ?_); refine tyKc.wpList_store rfl (.tmp 4) (.tmp 25) rfl rfl w.heap.size x rfl rfl 24 _ (blk_new (g := w.heap.size) 24 _ (by simp)) rfl ?_; intro w7 o7 b7))
  exact bodyPost_ret (results_cell1 rfl _ _ w.heap.size 24 _ (0, 0) _ rfl b7 Tryd.underlying24 rfl (by rw [tyKc.arr]; kernel_rfl)) rfl ⟨rfl, ((Below.refl _ _).alloc (Nat.le_refl _) _).trans (o7.below (by simp))⟩
set_option maxRecDepth 100000 in
set_option maxHeartbeats 2000000 in
/-- where the lower height is known -/
theorem rAt_step (m : Nat) (hm : m + 1 ≤ 40)
    (ih : ∀ (A : Option Addr) (c : Nat) (l : List K32) (w : World), RowIn encK 32 w w.heap.size A c l → l.length ≤ 100000 → Calls Tryd.prog 21 #[.slice A l.length c, .int .i64 m] w fun e w' => e = .returned (.agg (encK (atK m l)).toArray) ∧ Below w.heap.size w w')
    (A : Option Addr) (c : Nat) (l : List K32) (w : World) (hl : RowIn encK 32 w w.heap.size A c l) (hn : 0 < l.length) (hn2 : l.length ≤ 100000) (half : Nat) (hhalf : half = min l.length (2 ^ m)) :
    Calls Tryd.prog 21 #[.slice A l.length c, .int .i64 ((m : Int) + 1)] w fun e w' => e = .returned (.agg (encK (atK (m + 1) l)).toArray) ∧ Below w.heap.size w w' := by
  have hle := hl.le
  have hs1 : ∀ W, (Instr.slice 28 (.slice A l.length c) none (some (.int .i64 (half : Int))) none).run Tryd.prog W = .ok (.slice A half c) W := fun W => tyKy.slice_to W A l.length c half (by omega)
  have hs2 : ∀ W, (Instr.slice 28 (.slice A l.length c) (some (.int .i64 (half : Int))) none none).run Tryd.prog W = .ok (.slice (cutA 32 c half A) (l.length - half) (c - half)) W := fun W => tyKy.slice_from W A l.length c half (by omega)
  have e1 : (l.take half).length = half := by rw [List.length_take]; omega
  have e2 : (l.drop half).length = l.length - half := List.length_drop
  have L1 := Lib.hid (show ∀ W, Below w.heap.size w W → Calls Tryd.prog 21 #[.slice A half c, .int .i64 m] W fun e w' => e = .returned (.agg (encK (atK m (l.take half))).toArray) ∧ Below W.heap.size W w' from fun W hb => by
    have := ih A c (l.take half) W (((hl.below hb).more hb.size).take encK_len half) (by omega)
    rwa [e1] at this)
  have L2 := Lib.hid (show ∀ W, Below w.heap.size w W → Calls Tryd.prog 21 #[.slice (cutA 32 c half A) (l.length - half) (c - half), .int .i64 m] W fun e w' => e = .returned (.agg (encK (atK m (l.drop half))).toArray) ∧ Below W.heap.size W w' from fun W hb => by
    have := ih (cutA 32 c half A) (c - half) (l.drop half) W (((hl.below hb).more hb.size).drop encK_len half (by omega)) (by omega)
    rwa [e2] at this)
  have HE := Lib.hid (show pairK (atK m (l.take half)) (atK m (l.drop half)) = atK (m + 1) l by
    show _ = pairK (atK m (l.take (2 ^ m))) (atK m (l.drop (2 ^ m)))
    by_cases h : l.length ≤ 2 ^ m
    · rw [List.take_of_length_le (i := 2 ^ m) h, List.drop_of_length_le (i := 2 ^ m) h, show half = l.length by omega, List.take_length, List.drop_length]
    · rw [show half = 2 ^ m by omega])
  have hd : ((l.length : Int) == 0) = false := beq_eq_false_iff_ne.mpr (by omega)
  have hd1 : ((m : Int) + 1 == 0) = false := beq_eq_false_iff_ne.mpr (by omega)
  obtain ⟨ka, hka⟩ : ∃ ka, atK m (l.take half) = ka := ⟨_, rfl⟩
  obtain ⟨kb, hkb⟩ : ∃ kb, atK m (l.drop half) = kb := ⟨_, rfl⟩
  rw [hka] at L1 HE
  rw [hkb] at L2 HE
  obtain ⟨kc, hkc⟩ : ∃ kc, atK (m + 1) l = kc := ⟨_, rfl⟩
  rw [hkc] at HE ⊢
  clear hl hle e1 e2 hka hkb hkc ih
  by_cases h20 : m + 1 ≤ 20
  · have hd2 : decide ((m : Int) + 1 ≤ 20) = true := by simp; omega
    have hp : 2 ^ m ≤ 2 ^ 19 := Nat.pow_le_pow_right (by decide) (by omega)
    have hmin : min (l.length : Int) (wrap64 (2 ^ m)) = (half : Int) := by
      have h2 : (2 : Int) ^ m = ((2 ^ m : Nat) : Int) := by norm_cast
      have h3 : wrap64 ((2 ^ m : Nat) : Int) = ((2 ^ m : Nat) : Int) := by unfold wrap64; omega
      rw [h2, h3]
      omega
    have hwm : IntKind.i64.wrap (m : Int) = (m : Int) := by rw [IntKind.wrap_i64]; omega
    clear hp hhalf
    go_enter Tryd.func21, Tryd.ntmps21
    go_wp2_with fail
    have B0 := Lib.hid (show Below w.heap.size w (w.alloc (.cells (encK zeroKey).toArray 24)) from (Below.refl _ _).alloc (Nat.le_refl _) _)
    have R0 := Lib.hid (Blk.new w 24 (encK zeroKey).toArray)
    obtain ⟨W0, hW0⟩ : ∃ W0, (w.alloc (.cells (encK zeroKey).toArray 24)) = W0 := ⟨_, rfl⟩
    rw [hW0] at B0 R0
    change Code.wp _ _ _ _ (w.alloc (.cells (encK zeroKey).toArray 24))
    rw [hW0]
    clear hW0
    have B0d := Lib.hid (show Below w.heap.size w W0.drew from B0.out.drew)
    refine wp_region_held_drew (S := fun _ => True) (by kernel_rfl) trivial ?_
    intro hS
    refine wpAnyH_take (i := 0) (v := .slice A l.length c) rfl (by kernel_rfl) (by kernel_rfl) (by kernel_rfl) (fun _ _ _ h => h) (Or.inl ⟨by rfl, fun W _ => by go_simp; try with_reducible rfl⟩) hS ?_
    simp only [Act.put, List.getElem_toArray, List.getElem_cons_zero, List.setIfInBounds_toArray, List.set_cons_succ, List.set_cons_zero]
    refine wpAnyH_take (i := 1) (v := .int .i64 half) rfl (by kernel_rfl) (by kernel_rfl) (by kernel_rfl) (fun _ _ _ h => h) (Or.inl ⟨by rfl, fun W _ => by go_simp; try with_reducible rfl⟩) hS ?_
    simp only [Act.put, List.getElem_toArray, List.getElem_cons_zero, List.getElem_cons_succ, List.setIfInBounds_toArray, List.set_cons_succ, List.set_cons_zero]
    refine wpAnyH_take (i := 2) (v := .slice A half c) rfl (by kernel_rfl) (by kernel_rfl) (by kernel_rfl) (fun _ _ _ h => h) (Or.inl ⟨by rfl, fun W _ => by go_simp; try with_reducible rfl⟩) hS ?_
    simp only [Act.put, List.getElem_toArray, List.getElem_cons_zero, List.getElem_cons_succ, List.setIfInBounds_toArray, List.set_cons_succ, List.set_cons_zero]
    refine wpAnyH_take (i := 3) (v := .int .i64 ((m : Int) + 1)) rfl (by kernel_rfl) (by kernel_rfl) (by kernel_rfl) (fun _ _ _ h => h) (Or.inl ⟨by rfl, fun W _ => by go_simp; try with_reducible rfl⟩) hS ?_
    simp only [Act.put, List.getElem_toArray, List.getElem_cons_zero, List.getElem_cons_succ, List.setIfInBounds_toArray, List.set_cons_succ, List.set_cons_zero]
    refine wpAnyH_take (i := 4) (v := .int .i64 m) rfl (by kernel_rfl) (by kernel_rfl) (by kernel_rfl) (fun _ _ _ h => h) (Or.inl ⟨by rfl, fun W _ => by go_simp; try with_reducible rfl⟩) hS ?_
    simp only [Act.put, List.getElem_toArray, List.getElem_cons_zero, List.getElem_cons_succ, List.setIfInBounds_toArray, List.set_cons_succ, List.set_cons_zero]
    refine wpAnyH_take (i := 6) (v := .slice A l.length c) rfl (by kernel_rfl) (by kernel_rfl) (by kernel_rfl) (fun _ _ _ h => h) (Or.inl ⟨by rfl, fun W _ => by go_simp; try with_reducible rfl⟩) hS ?_
    simp only [Act.put, List.getElem_toArray, List.getElem_cons_zero, List.getElem_cons_succ, List.setIfInBounds_toArray, List.set_cons_succ, List.set_cons_zero]
    refine wpAnyH_take (i := 7) (v := .int .i64 half) rfl (by kernel_rfl) (by kernel_rfl) (by kernel_rfl) (fun _ _ _ h => h) (Or.inl ⟨by rfl, fun W _ => by go_simp; try with_reducible rfl⟩) hS ?_
    simp only [Act.put, List.getElem_toArray, List.getElem_cons_zero, List.getElem_cons_succ, List.setIfInBounds_toArray, List.set_cons_succ, List.set_cons_zero]
    refine wpAnyH_take (i := 8) (v := .slice (cutA 32 c half A) (l.length - half) (c - half)) rfl (by kernel_rfl) (by kernel_rfl) (by kernel_rfl) (fun _ _ _ h => h) (Or.inl ⟨by rfl, fun W _ => by go_simp; try with_reducible rfl⟩) hS ?_
    simp only [Act.put, List.getElem_toArray, List.getElem_cons_zero, List.getElem_cons_succ, List.setIfInBounds_toArray, List.set_cons_succ, List.set_cons_zero]
    refine wpAnyH_take (i := 9) (v := .int .i64 ((m : Int) + 1)) rfl (by kernel_rfl) (by kernel_rfl) (by kernel_rfl) (fun _ _ _ h => h) (Or.inl ⟨by rfl, fun W _ => by go_simp; try with_reducible rfl⟩) hS ?_
    simp only [Act.put, List.getElem_toArray, List.getElem_cons_zero, List.getElem_cons_succ, List.setIfInBounds_toArray, List.set_cons_succ, List.set_cons_zero]
    refine wpAnyH_take (i := 10) (v := .int .i64 m) rfl (by kernel_rfl) (by kernel_rfl) (by kernel_rfl) (fun _ _ _ h => h) (Or.inl ⟨by rfl, fun W _ => by go_simp; try with_reducible rfl⟩) hS ?_
    simp only [Act.put, List.getElem_toArray, List.getElem_cons_zero, List.getElem_cons_succ, List.setIfInBounds_toArray, List.set_cons_succ, List.set_cons_zero]
    refine wpAnyH_ready (rs := [5]) (by kernel_rfl) (by simp) ?_
    refine AllReadyH.cons rfl (fun Kq hK => ?_) AllReadyH.nil
    go_simp
    with_reducible refine (L1.out _ B0d.out).mono ?_
    rintro e x1 ⟨rfl, b1⟩
    have B1 := Lib.hid (B0d.out.trans (b1.mono B0d.out.size))
    have R1 := Lib.hid (below_blk b1 R0.out R0.out.lt)
    refine hK.out _ _ trivial (fun hS => ?_)
    clear hK Kq b1
    refine wpAnyH_ready (rs := [11]) (by kernel_rfl) (by simp) ?_
    refine AllReadyH.cons rfl (fun Kq hK => ?_) AllReadyH.nil
    go_simp
    with_reducible refine (L2.out _ B1.out).mono ?_
    rintro e x2 ⟨rfl, b2⟩
    have B2 := Lib.hid (B1.out.trans (b2.mono B1.out.size))
    have R2 := Lib.hid (below_blk b2 R1.out R1.out.lt)
    refine hK.out _ _ trivial (fun hS => ?_)
    clear hK Kq b2
    refine wpAnyH_ready (rs := [12]) (by kernel_rfl) (by simp) ?_
    refine AllReadyH.cons rfl (fun Kq hK => ?_) AllReadyH.nil
    go_simp
    with_reducible refine (rPair_r ka kb _).mono ?_
    rintro e x3 ⟨rfl, b3⟩
    rw [HE.out]
    have B3 := Lib.hid (B2.out.trans (b3.mono B2.out.size))
    have R3 := Lib.hid (below_blk b3 R2.out R2.out.lt)
    refine hK.out _ _ trivial (fun hS => ?_)
    clear hK Kq b3
    refine wpAnyH_ready (rs := [13]) (by kernel_rfl) (by simp) ?_
    refine AllReadyH.cons rfl (fun Kq hK => ?_) AllReadyH.nil
    refine tyKc.step_store rfl (.tmp 4) (.tmp 47) rfl rfl w.heap.size kc rfl rfl 24 _ R3.out (by rw [tyKc.arr]) ?_
    intro w4 o4 b4
    have B4 := Lib.hid (B3.out.trans (o4.below (by simp)))
    refine hK.out _ _ trivial (fun _ => ?_)
    clear hK Kq hS
    refine wpAnyH_done (by kernel_rfl) ?_ _
    go_wp2_with fail
    exact bodyPost_ret (results_cell1 rfl _ _ w.heap.size 24 _ (0, 0) _ rfl b4 Tryd.underlying24 rfl (by rw [tyKc.arr]; kernel_rfl)) rfl ⟨rfl, B4.out⟩
  · have hd2 : decide ((m : Int) + 1 ≤ 20) = false := by simp; omega
    have hp : 2 ^ 20 ≤ 2 ^ m := Nat.pow_le_pow_right (by decide) (by omega)
    obtain rfl : half = l.length := by omega
    rw [Nat.sub_self] at L2 hs2
    have hwm : IntKind.i64.wrap (m : Int) = (m : Int) := by rw [IntKind.wrap_i64]; omega
    clear hp hhalf
    go_enter Tryd.func21, Tryd.ntmps21
    go_wp2_with fail
    have B0 := Lib.hid (show Below w.heap.size w (w.alloc (.cells (encK zeroKey).toArray 24)) from (Below.refl _ _).alloc (Nat.le_refl _) _)
    have R0 := Lib.hid (Blk.new w 24 (encK zeroKey).toArray)
    obtain ⟨W0, hW0⟩ : ∃ W0, (w.alloc (.cells (encK zeroKey).toArray 24)) = W0 := ⟨_, rfl⟩
    rw [hW0] at B0 R0
    change Code.wp _ _ _ _ (w.alloc (.cells (encK zeroKey).toArray 24))
    rw [hW0]
    clear hW0
    have B0d := Lib.hid (show Below w.heap.size w W0.drew from B0.out.drew)
    refine wp_region_held_drew (S := fun _ => True) (by kernel_rfl) trivial ?_
    intro hS
    refine wpAnyH_take (i := 0) (v := .slice A l.length c) rfl (by kernel_rfl) (by kernel_rfl) (by kernel_rfl) (fun _ _ _ h => h) (Or.inl ⟨by rfl, fun W _ => by go_simp; try with_reducible rfl⟩) hS ?_
    simp only [Act.put, List.getElem_toArray, List.getElem_cons_zero, List.setIfInBounds_toArray, List.set_cons_succ, List.set_cons_zero]
    refine wpAnyH_take (i := 1) (v := .int .i64 l.length) rfl (by kernel_rfl) (by kernel_rfl) (by kernel_rfl) (fun _ _ _ h => h) (Or.inl ⟨by rfl, fun W _ => by go_simp; try with_reducible rfl⟩) hS ?_
    simp only [Act.put, List.getElem_toArray, List.getElem_cons_zero, List.getElem_cons_succ, List.setIfInBounds_toArray, List.set_cons_succ, List.set_cons_zero]
    refine wpAnyH_take (i := 2) (v := .slice A l.length c) rfl (by kernel_rfl) (by kernel_rfl) (by kernel_rfl) (fun _ _ _ h => h) (Or.inl ⟨by rfl, fun W _ => by go_simp; try with_reducible rfl⟩) hS ?_
    simp only [Act.put, List.getElem_toArray, List.getElem_cons_zero, List.getElem_cons_succ, List.setIfInBounds_toArray, List.set_cons_succ, List.set_cons_zero]
    refine wpAnyH_take (i := 3) (v := .int .i64 ((m : Int) + 1)) rfl (by kernel_rfl) (by kernel_rfl) (by kernel_rfl) (fun _ _ _ h => h) (Or.inl ⟨by rfl, fun W _ => by go_simp; try with_reducible rfl⟩) hS ?_
    simp only [Act.put, List.getElem_toArray, List.getElem_cons_zero, List.getElem_cons_succ, List.setIfInBounds_toArray, List.set_cons_succ, List.set_cons_zero]
    refine wpAnyH_take (i := 4) (v := .int .i64 m) rfl (by kernel_rfl) (by kernel_rfl) (by kernel_rfl) (fun _ _ _ h => h) (Or.inl ⟨by rfl, fun W _ => by go_simp; try with_reducible rfl⟩) hS ?_
    simp only [Act.put, List.getElem_toArray, List.getElem_cons_zero, List.getElem_cons_succ, List.setIfInBounds_toArray, List.set_cons_succ, List.set_cons_zero]
    refine wpAnyH_take (i := 6) (v := .slice A l.length c) rfl (by kernel_rfl) (by kernel_rfl) (by kernel_rfl) (fun _ _ _ h => h) (Or.inl ⟨by rfl, fun W _ => by go_simp; try with_reducible rfl⟩) hS ?_
    simp only [Act.put, List.getElem_toArray, List.getElem_cons_zero, List.getElem_cons_succ, List.setIfInBounds_toArray, List.set_cons_succ, List.set_cons_zero]
    refine wpAnyH_take (i := 7) (v := .int .i64 l.length) rfl (by kernel_rfl) (by kernel_rfl) (by kernel_rfl) (fun _ _ _ h => h) (Or.inl ⟨by rfl, fun W _ => by go_simp; try with_reducible rfl⟩) hS ?_
    simp only [Act.put, List.getElem_toArray, List.getElem_cons_zero, List.getElem_cons_succ, List.setIfInBounds_toArray, List.set_cons_succ, List.set_cons_zero]
    refine wpAnyH_take (i := 8) (v := .slice (cutA 32 c l.length A) 0 (c - l.length)) rfl (by kernel_rfl) (by kernel_rfl) (by kernel_rfl) (fun _ _ _ h => h) (Or.inl ⟨by rfl, fun W _ => by go_simp; try with_reducible rfl⟩) hS ?_
    simp only [Act.put, List.getElem_toArray, List.getElem_cons_zero, List.getElem_cons_succ, List.setIfInBounds_toArray, List.set_cons_succ, List.set_cons_zero]
    refine wpAnyH_take (i := 9) (v := .int .i64 ((m : Int) + 1)) rfl (by kernel_rfl) (by kernel_rfl) (by kernel_rfl) (fun _ _ _ h => h) (Or.inl ⟨by rfl, fun W _ => by go_simp; try with_reducible rfl⟩) hS ?_
    simp only [Act.put, List.getElem_toArray, List.getElem_cons_zero, List.getElem_cons_succ, List.setIfInBounds_toArray, List.set_cons_succ, List.set_cons_zero]
    refine wpAnyH_take (i := 10) (v := .int .i64 m) rfl (by kernel_rfl) (by kernel_rfl) (by kernel_rfl) (fun _ _ _ h => h) (Or.inl ⟨by rfl, fun W _ => by go_simp; try with_reducible rfl⟩) hS ?_
    simp only [Act.put, List.getElem_toArray, List.getElem_cons_zero, List.getElem_cons_succ, List.setIfInBounds_toArray, List.set_cons_succ, List.set_cons_zero]
    refine wpAnyH_ready (rs := [5]) (by kernel_rfl) (by simp) ?_
    refine AllReadyH.cons rfl (fun Kq hK => ?_) AllReadyH.nil
    go_simp
    with_reducible refine (L1.out _ B0d.out).mono ?_
    rintro e x1 ⟨rfl, b1⟩
    have B1 := Lib.hid (B0d.out.trans (b1.mono B0d.out.size))
    have R1 := Lib.hid (below_blk b1 R0.out R0.out.lt)
    refine hK.out _ _ trivial (fun hS => ?_)
    clear hK Kq b1
    refine wpAnyH_ready (rs := [11]) (by kernel_rfl) (by simp) ?_
    refine AllReadyH.cons rfl (fun Kq hK => ?_) AllReadyH.nil
    go_simp
    with_reducible refine (L2.out _ B1.out).mono ?_
    rintro e x2 ⟨rfl, b2⟩
    have B2 := Lib.hid (B1.out.trans (b2.mono B1.out.size))
    have R2 := Lib.hid (below_blk b2 R1.out R1.out.lt)
    refine hK.out _ _ trivial (fun hS => ?_)
    clear hK Kq b2
    refine wpAnyH_ready (rs := [12]) (by kernel_rfl) (by simp) ?_
    refine AllReadyH.cons rfl (fun Kq hK => ?_) AllReadyH.nil
    go_simp
    with_reducible refine (rPair_r ka kb _).mono ?_
    rintro e x3 ⟨rfl, b3⟩
    rw [HE.out]
    have B3 := Lib.hid (B2.out.trans (b3.mono B2.out.size))
    have R3 := Lib.hid (below_blk b3 R2.out R2.out.lt)
    refine hK.out _ _ trivial (fun hS => ?_)
    clear hK Kq b3
    refine wpAnyH_ready (rs := [13]) (by kernel_rfl) (by simp) ?_
    refine AllReadyH.cons rfl (fun Kq hK => ?_) AllReadyH.nil
    refine tyKc.step_store rfl (.tmp 4) (.tmp 47) rfl rfl w.heap.size kc rfl rfl 24 _ R3.out (by rw [tyKc.arr]) ?_
    intro w4 o4 b4
    have B4 := Lib.hid (B3.out.trans (o4.below (by simp)))
    refine hK.out _ _ trivial (fun _ => ?_)
    clear hK Kq hS
    refine wpAnyH_done (by kernel_rfl) ?_ _
    go_wp2_with fail
    exact bodyPost_ret (results_cell1 rfl _ _ w.heap.size 24 _ (0, 0) _ rfl b4 Tryd.underlying24 rfl (by rw [tyKc.arr]; kernel_rfl)) rfl ⟨rfl, B4.out⟩
theorem rAt_r (h : Nat) (hh : h ≤ 40) : ∀ (A : Option Addr) (c : Nat) (l : List K32) (w : World), RowIn encK 32 w w.heap.size A c l → l.length ≤ 100000 →
    Calls Tryd.prog 21 #[.slice A l.length c, .int .i64 h] w fun e w' => e = .returned (.agg (encK (atK h l)).toArray) ∧ Below w.heap.size w w' := by
  induction h with
  | zero =>
    intro A c l w hl hn
    by_cases h0 : l = []
    · subst h0
      rw [show atK 0 [] = empK 0 from rfl]
      exact rAt_nil A c 0 (by omega) w
    · exact rAt_zero A c l w hl (List.length_pos_iff.2 h0)
  | succ m ih =>
    intro A c l w hl hn
    by_cases h0 : l = []
    · subst h0
      rw [show atK (m + 1) [] = empK (m + 1) from atR_nil pairK zeroKey (m + 1)]
      exact rAt_nil A c (m + 1) hh w
    · exact rAt_step m hh (ih (by omega)) A c l w hl (List.length_pos_iff.2 h0) hn _ rfl
end Go.Proofs.YtfmidmhbnpincaaDoor
