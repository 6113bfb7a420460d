/- AnchorWindow: the statement's walk. Written by genLAw.py. -/
import Derived.Test.YtiifamfophbbcaaAncU
namespace Go.Proofs.Ytiifamfophbbcaa
open Go.RowKit
set_option maxRecDepth 20000 in
set_option maxHeartbeats 4000000 in
theorem awindow_walk (HNW : NewOk) (HPT : PutOk) (HHS : HasOk) (HLS : LastOk) (f : K32) (A0 : Option Addr) (c0 : Nat) (l : List K32) (k : K32) (w : World) (hl : RowIn encK 32 w w.heap.size A0 c0 l) :
    Calls Try.prog 4 #[.agg (encK f).toArray, .slice A0 l.length c0, .agg (encK k).toArray] w fun e w' => e = .returned (.bool true) ∧ Below w.heap.size w w' := by
  have SH := Lib.hid (fun W => ashown_any HNW HPT HHS W)
  unfold NewOk at HNW
  unfold PutOk at HPT
  unfold HasOk at HHS
  unfold LastOk at HLS
  have HN := Lib.hid HNW
  have HP := Lib.hid HPT
  have HH := Lib.hid HHS
  have HLA := Lib.hid HLS
  have HL := Lib.hid hl
  have H0 := Lib.hid (show Holds w [(w.heap.size + 1, 24, (encK k).toArray), (w.heap.size, 24, (encK f).toArray)] ((w.alloc (.cells (encK f).toArray 24)).alloc (.cells (encK k).toArray 24)) from by
    have := ((Holds.nil w).box 24 (encK f).toArray).box 24 (encK k).toArray
    rwa [World.size_alloc] at this)
  clear HNW HPT HHS HLS
  by_cases h100 : 100 < l.length
  · have hd : decide ((100 : Int) < (l.length : Int)) = true := by simp; omega
    clear hl
    go_enter Try.func4, Try.ntmps4
    go_wp2_with fail
    refine (SH.out _).mono ?_
    rintro e w1 ⟨rfl, b1⟩
    have H1 := Lib.hid (H0.out.call b1)
    go_wp2_with fail
    go_ret
    exact ⟨rfl, H1.out.below⟩
  · have hd : decide ((100 : Int) < (l.length : Int)) = false := by simp; omega
    have hn100 : l.length ≤ 100 := by omega
    clear hl h100
    go_enter Try.func4, Try.ntmps4
    go_wp2_with fail
    refine (SH.out _).mono ?_
    rintro e w1 ⟨rfl, b1⟩
    have H1 := Lib.hid (H0.out.call b1)
    clear b1 H0
    go_wp2_with ((with_reducible refine at_load 3 ?_); refine tyKc.wpList_load rfl (.tmp 3) rfl (w.heap.size) 0 rfl (f) (RowC.of_blk (H1.out.at (x := (w.heap.size, 24, (encK f).toArray)) (by simp))) ?_)
    refine (HN.out f _).mono ?_
    rintro e w2 ⟨A, c, rfl, r2, b2⟩
    have R2 := Lib.hid r2
    have H2 := Lib.hid (H1.out.call b2)
    clear r2 b2 H1
    go_wp2_with (first
        | ((with_reducible refine at_store 7 23 ?_); refine tyRg.wpList_store rfl (.tmp 7) (.tmp 23) rfl rfl w2.heap.size ((A, 1, c)) rfl rfl 27 _ (Blk.new w2 27 _) rfl ?_; intro w3 o3 b3
           have H3 := Lib.hid (H2.out.put o3 b3)
           have S3 := Lib.hid (show RgS w (w.heap.size + 1) k w2.heap.size (lastN 8 (f :: l.take 0)) A c w3 from ⟨(H2.out.put o3 b3).below, (H2.out.put o3 b3).at (x := (w.heap.size + 1, 24, (encK k).toArray)) (by simp), b3, by have := ((R2.out.below ((Below.refl _ _).alloc (Nat.le_refl _) _)).below (o3.below (B := w2.heap.size) (by simp))).more (show w2.heap.size ≤ w3.heap.size by rw [o3.size]; simp); exact this, H2.out.below.size⟩)
           have Z3 := Lib.hid (show w3.heap.size = w2.heap.size + 1 by rw [o3.size, World.size_alloc])
           clear o3 b3)
        | ((with_reducible refine at_load 3 ?_); refine tyKc.wpList_load rfl (.tmp 3) rfl (w.heap.size) 0 rfl (f) (RowC.of_blk (H3.out.at (x := (w.heap.size, 24, (encK f).toArray)) (by simp))) ?_)
        | ((with_reducible refine at_buildSlice 25 ?_); refine tyKy.wpList_build rfl azsK 1 _ rfl [f] rfl (by omega) (by omega) (by kernel_rfl) ?_))
    have HGK := Lib.hid (show w.heap.size + 1 < w2.heap.size from (H2.out.at (x := (w.heap.size + 1, 24, (encK k).toArray)) (by simp)).lt)
    have O0 := Lib.hid (show World.ownsRow (w3.alloc (.cells (cellsOf encK [f]).toArray 24)) (w2.heap.size + 1) 24 32 (.slice (some ⟨w3.heap.size, 0, none⟩) 1 1) (f :: l.take 0).length (cellsOf encK (f :: l.take 0)) from aown_one (Blk.new w3 24 _) (by rw [Z3.out]; exact Nat.le_refl _))
    have S0 := Lib.hid (S3.out.call (show Below w3.heap.size w3 (w3.alloc (.cells (cellsOf encK [f]).toArray 24)) from (Below.refl _ _).alloc (Nat.le_refl _) _))
    have P0 := Lib.hid (show ∀ a, A = some a → some a.block ≠ (Value.slice (some ⟨w3.heap.size, 0, none⟩) 1 1).ownBlock from fun a ha he => by
      have h1 := S3.out.lt (lastN_ne (by omega) (by simp)) a ha
      have h2 : a.block = w3.heap.size := Option.some.inj he
      omega)
    obtain ⟨gr, hgr⟩ : ∃ gr, w2.heap.size = gr := ⟨_, rfl⟩
    rw [hgr] at S0 O0 HGK ⊢
    clear hgr H2 R2 hd H3 S3 Z3
    go_loopw [8, 9] (fun so si wr => ∃ (j : Nat) (rl : List K32) (A : Option Addr) (c : Nat), si = .int .i64 j ∧ j ≤ l.length ∧ Hid (rl = lastN 8 (f :: l.take j)) ∧ Hid (RgS w (w.heap.size + 1) k gr rl A c wr) ∧ Hid (wr.ownsRow (gr + 1) 24 32 so (f :: l.take j).length (cellsOf encK (f :: l.take j))) ∧ Hid (∀ a, A = some a → some a.block ≠ so.ownBlock)) (fun _ si _ => l.length - (intOf si).toNat)
    case atStart => exact ⟨0, _, A, c, rfl, by omega, Lib.hid rfl, S0, O0, P0⟩
    case round =>
      clear S0 O0 P0
      obtain ⟨j, rl, A, c, rfl, hj, HR, R0, OW, AP⟩ := hrel
      have HLN := Lib.hid (show rl.length ≤ 8 by rw [HR.out, lastN_len]; omega)
      by_cases hlt : j < l.length
      · have hd : decide ((j : Int) < (l.length : Int)) = true := by simp; omega
        obtain ⟨g, o, hA, hg, hc⟩ := HL.out.at encK_len hlt
        obtain ⟨x, hx⟩ : ∃ x, l[j]'hlt = x := ⟨_, rfl⟩
        rw [hx] at hc
        subst hA
        have HG := Lib.hid hg
        have XA := Lib.hid (show ∀ W, Below w.heap.size w W → RowC W g (o + j * 32) (encK x) from fun W hb => hc.below hb hg)
        have HTS := Lib.hid (show (f :: l.take j) ++ [x] = f :: l.take (j + 1) by rw [List.take_succ_eq_append_getElem hlt, hx]; rfl)
        have hi0 : (0 : Int) ≤ (j : Int) := by omega
        have hi1 : (j : Int) < (l.length : Int) := by omega
        have HLL := Lib.hid (show (f :: l.take j).length ≤ 1000 by rw [List.length_cons, List.length_take]; omega)
        obtain ⟨rl2, hrl2⟩ : ∃ rl2, putR rl x = rl2 := ⟨_, rfl⟩
        have HPU := Lib.hid hrl2
        have HR2 := Lib.hid (show rl2 = lastN 8 (f :: l.take (j + 1)) by rw [← hrl2, HR.out, ← HTS.out]; exact putR_of _ _)
        have HX := Lib.hid (XA.out _ R0.out.below)
        clear hx hc hg hrl2
        go_wp2_with fail
        have AS := Lib.hid R0.out.drew
        have XD := Lib.hid (show RowC wr.drew g (o + j * 32) (encK x) from HX.out)
        refine wp_region_held_drew (S := fun W => RowC W g (o + j * 32) (encK x)) (by kernel_rfl) XD.out ?_
        intro hS
        refine wpAnyH_take (i := 1) (v := .slice (some ⟨g, o, none⟩) l.length c0) rfl (by kernel_rfl) (by kernel_rfl) (by kernel_rfl) (fun _ _ _ h => h) (Or.inl ⟨by rfl, fun W _ => by go_simp; try with_reducible rfl⟩) hS ?_
        simp only [Act.put, List.getElem_toArray, List.getElem_cons_zero, List.getElem_cons_succ, List.setIfInBounds_toArray, List.set_cons_succ, List.set_cons_zero]
        refine wpAnyH_take (i := 2) (v := .int .i64 j) rfl (by kernel_rfl) (by kernel_rfl) (by kernel_rfl) (fun _ _ _ h => h) (Or.inl ⟨by rfl, fun W _ => by go_simp; try with_reducible rfl⟩) hS ?_
        simp only [Act.put, List.getElem_toArray, List.getElem_cons_zero, List.getElem_cons_succ, List.setIfInBounds_toArray, List.set_cons_succ, List.set_cons_zero]
        refine wpAnyH_take (i := 3) (v := .pointer (some ⟨g, o + j * 32, none⟩)) rfl (by kernel_rfl) (by kernel_rfl) (by kernel_rfl) (fun _ _ _ h => h) (Or.inl ⟨by rfl, fun W _ => by go_simp; try with_reducible rfl⟩) hS ?_
        simp only [Act.put, List.getElem_toArray, List.getElem_cons_zero, List.getElem_cons_succ, List.setIfInBounds_toArray, List.set_cons_succ, List.set_cons_zero]
        refine wpAnyH_take (i := 4) (v := .agg (encK x).toArray) rfl (by kernel_rfl) (by kernel_rfl) (by kernel_rfl) (fun _ _ _ h => h) (tyKc.yieldsIf_load (by rfl) (.tmp 35) rfl (g) (o + j * 32) rfl (x) (fun _ h => h)) hS ?_
        simp only [Act.put, List.getElem_toArray, List.getElem_cons_zero, List.getElem_cons_succ, List.setIfInBounds_toArray, List.set_cons_succ, List.set_cons_zero]
        refine wpAnyH_ready (rs := [0]) (by kernel_rfl) (by simp) ?_
        refine AllReadyH.cons rfl (fun Kq hK => ?_) AllReadyH.nil
        refine tyRg.step_load (by rfl) (.tmp 7) rfl gr 0 rfl (A, rl.length, c) (RowC.of_blk AS.out.rb) ?_
        refine hK.out _ _ hS (fun hS => ?_)
        clear hK Kq
        simp only [Act.put, List.getElem_toArray, List.getElem_cons_zero, List.setIfInBounds_toArray, List.set_cons_succ, List.set_cons_zero]
        refine wpAnyH_ready (rs := [5]) (by kernel_rfl) (by simp) ?_
        refine AllReadyH.cons rfl (fun Kq hK => ?_) AllReadyH.nil
        go_simp
        refine (HP.out A c rl x _ (by have := HLN.out; omega) AS.out.row).mono ?_
        rintro e x1 ⟨A1, c1, rfl, r1, f1, b1⟩
        rw [HPU.out] at r1 ⊢
        have R1 := Lib.hid r1
        have F1 := Lib.hid (And.intro f1 AS.out.below.size)
        have S1 := Lib.hid (AS.out.call b1)
        have X1 := Lib.hid (XD.out.below b1 (Nat.lt_of_lt_of_le HG.out AS.out.below.size))
        have OW1 := Lib.hid (aown_below (show World.ownsRow wr.drew (gr + 1) 24 32 u8 (f :: l.take j).length (cellsOf encK (f :: l.take j)) from OW.out) b1)
        refine hK.out _ _ X1.out (fun hS => ?_)
        clear hK Kq b1 r1 f1 AS XD
        refine wpAnyH_ready (rs := [6]) (by kernel_rfl) (by simp) ?_
        refine AllReadyH.cons rfl (fun Kq hK => ?_) AllReadyH.nil
        refine tyRg.step_store rfl (.tmp 7) (.tmp 37) rfl rfl gr (A1, rl2.length, c1) rfl rfl 27 _ S1.out.rb rfl ?_
        intro w4 o4 b4
        have R10 := Lib.hid (S1.out.turn R1.out o4 b4)
        have OW4 := Lib.hid (aown_only OW1.out o4 (by simp))
        refine hK.out _ _ (arowC_only X1.out o4 (by have := HG.out; have := S1.out.hgr; simp; omega)) (fun _ => ?_)
        clear hK Kq hS o4 b4 S1 X1 R1
        refine wpAnyH_done (by kernel_rfl) ?_ _
        have AP1 := Lib.hid (show ∀ a, A1 = some a → some a.block ≠ u8.ownBlock from fun a ha he => by
          have h1 := F1.out.1 a ha
          have h2 := aown_lt OW.out a.block he.symm
          have h3 : wr.drew.heap.size = wr.heap.size := rfl
          omega)
        have X4 := Lib.hid (XA.out _ R10.out.below)
        have L4 := Lib.hid (R10.out.lt (by rw [HR2.out]; exact lastN_ne (by omega) (by simp)))
        have G4 := Lib.hid (show gr + 1 ≤ w4.heap.size from R10.out.rb.lt)
        clear R0 OW AP F1 OW1
        go_wp2_with (first
          | ((with_reducible refine at_load 41 ?_); refine tyKc.wpList_load rfl (.tmp 41) rfl g (o + j * 32) rfl x X4.out ?_)
          | ((with_reducible refine at_buildSlice 43 ?_); refine tyKy.wpList_build rfl azsK 1 _ rfl [x] rfl (by omega) (by omega) (by kernel_rfl) ?_)
          | ((with_reducible refine at_appendg 44 38 43 ?_); refine tyKy.wpList_append1b rfl azcK 32 azbK (by omega) (.tmp 38) (.tmp 43) rfl (gr + 1) _ (f :: l.take j) rfl (OW4.out.alloc _) _ 1 x rfl (Blk.new _ _ _) (by have := HLL.out; omega) (by have := G4.out; simp; omega) ?_; intro v5 w5 p5 g5 d5
             have BL5 := Lib.hid (aown_grown (OW4.out.alloc _) g5 (by have := G4.out; simp; omega))
             have R11 := Lib.hid ((R10.out.call ((Below.refl _ _).alloc (Nat.le_refl _) _)).grow g5 BL5.out HGK.out (fun a ha => AP1.out a ha))
             have OW5 := Lib.hid (aown_congr p5 HTS.out)
             have AP5 := Lib.hid (show ∀ a, A1 = some a → some a.block ≠ v5.ownBlock from fun a ha he => by
               have h1 := L4.out a ha
               rcases d5 with h | h
               · exact AP1.out a ha (he.trans h)
               · rw [h, World.size_alloc] at he
                 have := Option.some.inj he
                 omega)
             clear p5 g5 d5 BL5))
        go_roundw
        case rel => exact ⟨j + 1, rl2, A1, c1, by go_num, by omega, HR2, R11, OW5, AP5⟩
        case measure => simp [intOf]; omega
      · have hd : decide ((j : Int) < (l.length : Int)) = false := by simp; omega
        obtain ⟨all, hall⟩ : ∃ all, f :: l = all := ⟨_, rfl⟩
        have hte : f :: l.take j = all := by rw [List.take_of_length_le (by omega), hall]
        have HRA := Lib.hid (show rl = lastN 8 all by rw [HR.out, hte])
        obtain ⟨N, hN⟩ : ∃ N, all.length = N := ⟨_, rfl⟩
        have hN1 : 1 ≤ N := by rw [← hN, ← hall]; simp
        have hN2 : N ≤ 101 := by rw [← hN, ← hall, List.length_cons]; omega
        have HNA := Lib.hid hN
        have OWA := aown_congr OW.out hte
        obtain ⟨A5, c5, hv5, r5⟩ := RowIn.of_own encK_len OWA
        obtain ⟨g2, o2, hA5, hg2, _⟩ := r5.cells (by intro e; rw [e] at hN; simp at hN; omega)
        subst hA5
        rw [hN] at hv5
        have AL := Lib.hid r5
        clear OWA r5 hte hall hN OW AP HR HGK HLN
        subst hv5
        go_wp2_with fail
        clear hd hj hlt
        obtain ⟨wo, rfl⟩ : ∃ q, q = wr := ⟨_, rfl⟩
        go_loopw [10, 11] (fun sb si wr => ∃ (i : Nat) (b : Bool), si = .int .i64 i ∧ sb = .bool b ∧ i ≤ 4 ∧ i ≤ N ∧ Hid (b = decide (k ∈ lastN i all)) ∧ Hid (RgS w (w.heap.size + 1) k gr rl A c wr) ∧ Hid (RowIn encK 32 wr wr.heap.size (some ⟨g2, o2, none⟩) c5 all)) (fun _ si _ => 4 - (intOf si).toNat)
        case atStart => exact ⟨0, false, rfl, rfl, by omega, by omega, Lib.hid (by rw [lastN_zero]; simp), R0, AL⟩
        case round =>
          clear R0 AL hg2
          obtain ⟨i, b, rfl, rfl, hi4, hiN, HB, R0, AL⟩ := hrel
          have HLN := Lib.hid (show rl.length ≤ 8 by rw [HRA.out, lastN_len]; omega)
          by_cases hlt : i < 4 ∧ i < N
          · have d1 : decide ((i : Int) < 4) = true := by simp; omega
            have d2 : decide ((i : Int) < (N : Int)) = true := by simp; omega
            obtain ⟨p, hp⟩ : ∃ p, N - 1 - i = p := ⟨_, rfl⟩
            have hpl : p < all.length := by rw [HNA.out]; omega
            obtain ⟨g', o', e2, hg2, hc⟩ := AL.out.at encK_len hpl
            obtain ⟨rfl, rfl⟩ : g2 = g' ∧ o2 = o' := by simpa using e2
            obtain ⟨y, hy⟩ : ∃ y, all[p]'hpl = y := ⟨_, rfl⟩
            rw [hy] at hc
            have YA := Lib.hid hc
            have HG2 := Lib.hid hg2
            have hil : i < all.length := by rw [HNA.out]; omega
            have hyy : all[all.length - 1 - i]'(by omega) = y := by rw [← hy]; congr 1; rw [HNA.out]; exact hp
            have HHV := Lib.hid (show hasR rl y = true by
              rw [HRA.out, hasR_of, ← hyy]
              exact decide_eq_true (lastN_mem all i 4 hil hlt.1))
            have HLS2 := Lib.hid (show lastN (i + 1) all = y :: lastN i all by rw [lastN_succ all i hil, hyy])
            have hp2 : (N : Int) - 1 - (i : Int) = (p : Int) := by omega
            have hi0 : (0 : Int) ≤ (p : Int) := by omega
            have hi1 : (p : Int) < (N : Int) := by omega
            have hmw : IntKind.i64.wrap ((N : Int) - 1) = (N : Int) - 1 := by rw [IntKind.wrap_i64]; omega
            have hpw : IntKind.i64.wrap (p : Int) = (p : Int) := by rw [IntKind.wrap_i64]; omega
            have HJ := Lib.hid (show i + 1 ≤ 4 ∧ i + 1 ≤ N from ⟨by omega, by omega⟩)
            have HYP := Lib.hid (show all[p]'hpl = y from hy)
            clear e2 hc hg2 hil hyy hy hp
            go_wp2_with fail
            have AS := Lib.hid R0.out.drew
            have YD := Lib.hid (show RowC wr.drew g2 (o2 + p * 32) (encK y) from YA.out)
            refine wp_region_held_drew (S := fun W => RgS w (w.heap.size + 1) k gr rl A c W ∧ RowC W g2 (o2 + p * 32) (encK y)) (by kernel_rfl) ⟨AS.out, YD.out⟩ ?_
            intro hS
            refine wpAnyH_take (i := 0) (v := .agg (encR (A, rl.length, c)).toArray) rfl (by kernel_rfl) (by kernel_rfl) (by kernel_rfl) (fun _ _ _ h => h) (tyRg.yieldsIf_load (by rfl) (.tmp 7) rfl gr 0 rfl (A, rl.length, c) (fun _ h => RowC.of_blk h.1.rb)) hS ?_
            simp only [Act.put, List.getElem_toArray, List.getElem_cons_zero, List.setIfInBounds_toArray, List.set_cons_succ, List.set_cons_zero]
            refine wpAnyH_take (i := 1) (v := .slice (some ⟨g2, o2, none⟩) N c5) rfl (by kernel_rfl) (by kernel_rfl) (by kernel_rfl) (fun _ _ _ h => h) (Or.inl ⟨by rfl, fun W _ => by go_simp; try with_reducible rfl⟩) hS ?_
            simp only [Act.put, List.getElem_toArray, List.getElem_cons_zero, List.getElem_cons_succ, List.setIfInBounds_toArray, List.set_cons_succ, List.set_cons_zero]
            refine wpAnyH_take (i := 2) (v := .slice (some ⟨g2, o2, none⟩) N c5) rfl (by kernel_rfl) (by kernel_rfl) (by kernel_rfl) (fun _ _ _ h => h) (Or.inl ⟨by rfl, fun W _ => by go_simp; try with_reducible rfl⟩) hS ?_
            simp only [Act.put, List.getElem_toArray, List.getElem_cons_zero, List.getElem_cons_succ, List.setIfInBounds_toArray, List.set_cons_succ, List.set_cons_zero]
            refine wpAnyH_take (i := 3) (v := .int .i64 N) rfl (by kernel_rfl) (by kernel_rfl) (by kernel_rfl) (fun _ _ _ h => h) (Or.inl ⟨by rfl, fun W _ => by go_simp; try with_reducible rfl⟩) hS ?_
            simp only [Act.put, List.getElem_toArray, List.getElem_cons_zero, List.getElem_cons_succ, List.setIfInBounds_toArray, List.set_cons_succ, List.set_cons_zero]
            refine wpAnyH_take (i := 4) (v := .int .i64 ((N : Int) - 1)) rfl (by kernel_rfl) (by kernel_rfl) (by kernel_rfl) (fun _ _ _ h => h) (Or.inl ⟨by rfl, fun W _ => by go_simp; try with_reducible rfl⟩) hS ?_
            simp only [Act.put, List.getElem_toArray, List.getElem_cons_zero, List.getElem_cons_succ, List.setIfInBounds_toArray, List.set_cons_succ, List.set_cons_zero]
            refine wpAnyH_take (i := 5) (v := .int .i64 i) rfl (by kernel_rfl) (by kernel_rfl) (by kernel_rfl) (fun _ _ _ h => h) (Or.inl ⟨by rfl, fun W _ => by go_simp; try with_reducible rfl⟩) hS ?_
            simp only [Act.put, List.getElem_toArray, List.getElem_cons_zero, List.getElem_cons_succ, List.setIfInBounds_toArray, List.set_cons_succ, List.set_cons_zero]
            refine wpAnyH_take (i := 6) (v := .int .i64 p) rfl (by kernel_rfl) (by kernel_rfl) (by kernel_rfl) (fun _ _ _ h => h) (Or.inl ⟨by rfl, fun W _ => by go_simp; try with_reducible rfl⟩) hS ?_
            simp only [Act.put, List.getElem_toArray, List.getElem_cons_zero, List.getElem_cons_succ, List.setIfInBounds_toArray, List.set_cons_succ, List.set_cons_zero]
            refine wpAnyH_take (i := 7) (v := .pointer (some ⟨g2, o2 + p * 32, none⟩)) rfl (by kernel_rfl) (by kernel_rfl) (by kernel_rfl) (fun _ _ _ h => h) (Or.inl ⟨by rfl, fun W _ => by go_simp; try with_reducible rfl⟩) hS ?_
            simp only [Act.put, List.getElem_toArray, List.getElem_cons_zero, List.getElem_cons_succ, List.setIfInBounds_toArray, List.set_cons_succ, List.set_cons_zero]
            refine wpAnyH_take (i := 8) (v := .agg (encK y).toArray) rfl (by kernel_rfl) (by kernel_rfl) (by kernel_rfl) (fun _ _ _ h => h) (tyKc.yieldsIf_load (by rfl) (.tmp 62) rfl (g2) (o2 + p * 32) rfl (y) (fun _ h => h.2)) hS ?_
            simp only [Act.put, List.getElem_toArray, List.getElem_cons_zero, List.getElem_cons_succ, List.setIfInBounds_toArray, List.set_cons_succ, List.set_cons_zero]
            refine wpAnyH_ready (rs := [9]) (by kernel_rfl) (by simp) ?_
            refine AllReadyH.cons rfl (fun Kq hK => ?_) AllReadyH.nil
            go_simp
            refine (HH.out A c rl y _ (by have := HLN.out; omega) AS.out.row).mono ?_
            rintro e x1 ⟨rfl, b1⟩
            rw [HHV.out]
            have R9 := Lib.hid (AS.out.call b1)
            have AL9 := Lib.hid ((AL.out.below (show Below wr.heap.size wr x1 from ((Below.refl wr.heap.size wr).drew).trans b1)).more b1.size)
            refine hK.out _ _ ⟨R9.out, YD.out.below b1 (Nat.lt_of_lt_of_le HG2.out (Nat.le_refl _))⟩ (fun hS => ?_)
            clear hK Kq b1 AS
            refine wpAnyH_take (i := 10) (v := .bool false) rfl (by kernel_rfl) (by kernel_rfl) (by kernel_rfl) (fun _ _ _ h => h) (Or.inl ⟨by rfl, fun W _ => by go_simp; try with_reducible rfl⟩) hS ?_
            simp only [Act.put, List.getElem_toArray, List.getElem_cons_zero, List.getElem_cons_succ, List.setIfInBounds_toArray, List.set_cons_succ, List.set_cons_zero]
            refine wpAnyH_done (by kernel_rfl) ?_ _
            clear hS YD YA
            cases b with
            | true =>
              have HB2 := Lib.hid (show true = decide (k ∈ lastN (i + 1) all) by
                rw [HLS2.out]
                exact (decide_eq_true (List.mem_cons_of_mem _ (of_decide_eq_true HB.out.symm))).symm)
              go_wp2_with fail
              refine wp_region_from (by kernel_rfl) (by kernel_rfl) ?_
              repeat (first
                | go_big_quiet_skip
                | (go_big_quiet_want; go_big_quiet_op; refine ⟨_, fun _ _ => by with_reducible rfl, ?_⟩; go_big_quiet_on)
                | go_big_quiet_step (fail))
              refine wpQuiet_nil ?_
              intro w5 hC
              have R11 := Lib.hid (R9.out.call hC.below)
              have AL11 := Lib.hid ((AL9.out.below hC.below).more hC.below.size)
              clear hC R9 AL9
              go_wp2_with fail
              go_roundw
              case rel => exact ⟨i + 1, true, by go_num, rfl, HJ.out.1, HJ.out.2, HB2, R11, AL11⟩
              case measure => simp [intOf]; omega
            | false =>
              obtain ⟨q, hq⟩ : ∃ q, decide (y = k) = q := ⟨_, rfl⟩
              have HE := Lib.hid hq
              have HB2 := Lib.hid (show q = decide (k ∈ lastN (i + 1) all) by
                rw [HLS2.out, ← hq, decide_eq_decide, List.mem_cons]
                exact ⟨fun h => .inl h.symm, fun h => h.elim (fun h => h.symm) (fun h => absurd h (of_decide_eq_false HB.out.symm))⟩)
              have RX := Lib.hid (show ∀ W, From x1 W → RowC W g2 (o2 + p * 32) (encK y) from fun W hC => by
                have h1 := (AL9.out.below hC.below).at encK_len (i := p) (by have := HNA.out; omega)
                obtain ⟨g', o', e2, _, hc⟩ := h1
                obtain ⟨rfl, rfl⟩ : g2 = g' ∧ o2 = o' := by simpa using e2
                rwa [HYP.out] at hc)
              have RK := Lib.hid (show ∀ W, From x1 W → RowC W (w.heap.size + 1) 0 (encK k) from fun W hC => RowC.of_blk (below_blk hC.below R9.out.kb R9.out.kb.lt))
              clear hq
              go_wp2_with fail
              refine wp_region_from (by kernel_rfl) (by kernel_rfl) ?_
              repeat (first
                | go_big_quiet_skip
                | ((with_reducible refine at_qload 74 ?_); refine tyKy.wpQuiet_load (by rfl) (.tmp 74) rfl g2 (o2 + p * 32) rfl y RX.out ?_; simp only [Act.put, List.setIfInBounds_toArray, List.set_cons_succ, List.set_cons_zero])
                | ((with_reducible refine at_qload 5 ?_); refine tyKy.wpQuiet_load (by rfl) (.tmp 5) rfl (w.heap.size + 1) 0 rfl k RK.out ?_; simp only [Act.put, List.setIfInBounds_toArray, List.set_cons_succ, List.set_cons_zero])
                | ((with_reducible refine at_qeql 75 76 ?_); refine wpQuiet_eql_row (by rfl) 24 24 (.tmp 75) (.tmp 76) rfl (encK y).toArray (encK k).toArray rfl rfl (by kernel_rfl) q (fun V => (eqKy_run _ _ V).trans (by rw [HE.out])) ?_; simp only [Act.put, List.setIfInBounds_toArray, List.set_cons_succ, List.set_cons_zero])
                | (go_big_quiet_want; go_big_quiet_op; refine ⟨_, fun _ _ => by with_reducible rfl, ?_⟩; go_big_quiet_on)
                | go_big_quiet_step (fail))
              refine wpQuiet_nil ?_
              intro w5 hC
              have R11 := Lib.hid (R9.out.call hC.below)
              have AL11 := Lib.hid ((AL9.out.below hC.below).more hC.below.size)
              clear hC R9 AL9 RX RK
              go_wp2_with fail
              go_roundw
              case rel => exact ⟨i + 1, q, by go_num, rfl, HJ.out.1, HJ.out.2, HB2, R11, AL11⟩
              case measure => simp [intOf]; omega
          · have HB4 := Lib.hid (show b = decide (k ∈ lastN 4 all) by
              rw [HB.out]
              by_cases h4 : i = 4
              · rw [h4]
              · have hiN2 : i = N := by omega
                rw [hiN2, ← HNA.out, lastN_all (Nat.le_refl _), lastN_all (by rw [HNA.out]; omega)])
            have HHV := Lib.hid (show hasR rl k = b by rw [HB4.out, HRA.out, hasR_of])
            obtain ⟨m, hm⟩ : ∃ m, N - 1 = m := ⟨_, rfl⟩
            have hml : m < all.length := by rw [HNA.out]; omega
            obtain ⟨z, hz⟩ : ∃ z, all[m]'hml = z := ⟨_, rfl⟩
            have HZ := Lib.hid hz
            have hmN : all.length - 1 = m := by rw [HNA.out]; exact hm
            have HLZ := Lib.hid (show lastR rl = z ∧ decide (0 < rl.length) = true from ⟨by
              rw [HRA.out, lastR_last all (by omega), ← hz]
              congr 1, decide_eq_true (by rw [HRA.out, lastN_len]; omega)⟩)
            have hrl : min (N : Int) 8 = (rl.length : Int) := by rw [HRA.out, lastN_len, HNA.out]; omega
            have hm2 : (N : Int) - 1 = (m : Int) := by omega
            have hmw : IntKind.i64.wrap (m : Int) = (m : Int) := by rw [IntKind.wrap_i64]; omega
            have hm0 : (0 : Int) ≤ (m : Int) := by omega
            have hm1 : (m : Int) < (N : Int) := by omega
            clear hz hmN hm
            by_cases h4 : i < 4
            all_goals
              go_wp2_with ((with_reducible refine at_load 7 ?_); refine tyRg.wpList_load rfl (.tmp 7) rfl gr 0 rfl (A, rl.length, c) (RowC.of_blk R0.out.rb) ?_)
              refine (HLA.out A c rl _ (by have := HLN.out; omega) R0.out.row).mono ?_
              rintro e w6 ⟨rfl, b6⟩
              rw [HLZ.out.1, HLZ.out.2]
              have R6 := Lib.hid (R0.out.call b6)
              have AL6 := Lib.hid ((AL.out.below b6).more b6.size)
              clear b6 R0 AL
              go_wp2_with (first
                | ((with_reducible refine at_store 12 82 ?_); refine tyKc.wpList_store rfl (.tmp 12) (.tmp 82) rfl rfl w6.heap.size z rfl rfl 24 _ (Blk.new w6 24 _) rfl ?_; intro w7 o7 b7
                   have BB7 := Lib.hid (show Below w6.heap.size w6 w7 from ((Below.refl _ _).alloc (Nat.le_refl _) _).trans (o7.below (by simp)))
                   have R7 := Lib.hid (R6.out.call BB7.out)
                   have AL7 := Lib.hid ((AL6.out.below BB7.out).more BB7.out.size)
                   have Z7 := Lib.hid (show Blk w7 w6.heap.size 24 (encK z).toArray from b7)
                   clear o7 b7))
              obtain ⟨gz, hgz⟩ : ∃ gz, w6.heap.size = gz := ⟨_, rfl⟩
              rw [hgz] at Z7 ⊢
              clear hgz BB7 R6 AL6
              have AS := Lib.hid R7.out.drew
              have XZ := Lib.hid (show RowC w7.drew g2 (o2 + m * 32) (encK z) ∧ g2 < w7.heap.size from by
                obtain ⟨g', o', e2, hg', hc⟩ := AL7.out.at encK_len hml
                obtain ⟨rfl, rfl⟩ : g2 = g' ∧ o2 = o' := by simpa using e2
                rw [HZ.out] at hc
                exact ⟨hc, hg'⟩)
              refine wp_region_held_drew (S := fun W => RgS w (w.heap.size + 1) k gr rl A c W ∧ Blk W gz 24 (encK z).toArray ∧ RowC W g2 (o2 + m * 32) (encK z)) (by kernel_rfl) ⟨AS.out, Z7.out, XZ.out.1⟩ ?_
              intro hS
              refine wpAnyH_take (i := 0) (v := .agg (encR (A, rl.length, c)).toArray) rfl (by kernel_rfl) (by kernel_rfl) (by kernel_rfl) (fun _ _ _ h => h) (tyRg.yieldsIf_load (by rfl) (.tmp 7) rfl gr 0 rfl (A, rl.length, c) (fun _ h => RowC.of_blk h.1.rb)) hS ?_
              simp only [Act.put, List.getElem_toArray, List.getElem_cons_zero, List.setIfInBounds_toArray, List.set_cons_succ, List.set_cons_zero]
              refine wpAnyH_take (i := 1) (v := .agg (encK k).toArray) rfl (by kernel_rfl) (by kernel_rfl) (by kernel_rfl) (fun _ _ _ h => h) (tyKc.yieldsIf_load (by rfl) (.tmp 5) rfl (w.heap.size + 1) 0 rfl k (fun _ h => RowC.of_blk h.1.kb)) hS ?_
              simp only [Act.put, List.getElem_toArray, List.getElem_cons_zero, List.getElem_cons_succ, List.setIfInBounds_toArray, List.set_cons_succ, List.set_cons_zero]
              refine wpAnyH_take (i := 3) (v := .bool b) rfl (by kernel_rfl) (by kernel_rfl) (by kernel_rfl) (fun _ _ _ h => h) (Or.inl ⟨by rfl, fun W _ => by go_simp; try with_reducible rfl⟩) hS ?_
              simp only [Act.put, List.getElem_toArray, List.getElem_cons_zero, List.getElem_cons_succ, List.setIfInBounds_toArray, List.set_cons_succ, List.set_cons_zero]
              refine wpAnyH_ready (rs := [2]) (by kernel_rfl) (by simp) ?_
              refine AllReadyH.cons rfl (fun Kq hK => ?_) AllReadyH.nil
              go_simp
              refine (HH.out A c rl k _ (by have := HLN.out; omega) AS.out.row).mono ?_
              rintro e x1 ⟨rfl, b1⟩
              rw [HHV.out]
              have R8 := Lib.hid (AS.out.call b1)
              refine hK.out _ _ ⟨R8.out, below_blk b1 Z7.out Z7.out.lt, XZ.out.1.below b1 XZ.out.2⟩ (fun hS => ?_)
              clear hK Kq b1 AS
              refine wpAnyH_take (i := 4) (v := .bool true) rfl (by kernel_rfl) (by kernel_rfl) (by kernel_rfl) (fun _ _ _ h => h) (Or.inl ⟨by rfl, fun W _ => by go_simp; try with_reducible rfl⟩) hS ?_
              simp only [Act.put, List.getElem_toArray, List.getElem_cons_zero, List.getElem_cons_succ, List.setIfInBounds_toArray, List.set_cons_succ, List.set_cons_zero]
              refine wpAnyH_take (i := 5) (v := .bool true) rfl (by kernel_rfl) (by kernel_rfl) (by kernel_rfl) (fun _ _ _ h => h) (Or.inl ⟨by rfl, fun W _ => by go_simp; try with_reducible rfl⟩) hS ?_
              simp only [Act.put, List.getElem_toArray, List.getElem_cons_zero, List.getElem_cons_succ, List.setIfInBounds_toArray, List.set_cons_succ, List.set_cons_zero]
              refine wpAnyH_take (i := 6) (v := .bool true) rfl (by kernel_rfl) (by kernel_rfl) (by kernel_rfl) (fun _ _ _ h => h) (Or.inl ⟨by rfl, fun W _ => by go_simp; try with_reducible rfl⟩) hS ?_
              simp only [Act.put, List.getElem_toArray, List.getElem_cons_zero, List.getElem_cons_succ, List.setIfInBounds_toArray, List.set_cons_succ, List.set_cons_zero]
              refine wpAnyH_take (i := 7) (v := .bool true) rfl (by kernel_rfl) (by kernel_rfl) (by kernel_rfl) (fun _ _ _ h => h) (Or.inl ⟨by rfl, fun W _ => by go_simp; try with_reducible rfl⟩) hS ?_
              simp only [Act.put, List.getElem_toArray, List.getElem_cons_zero, List.getElem_cons_succ, List.setIfInBounds_toArray, List.set_cons_succ, List.set_cons_zero]
              refine wpAnyH_take (i := 8) (v := .bool true) rfl (by kernel_rfl) (by kernel_rfl) (by kernel_rfl) (fun _ _ _ h => h) (Or.inl ⟨by rfl, fun W _ => by go_simp; try with_reducible rfl⟩) hS ?_
              simp only [Act.put, List.getElem_toArray, List.getElem_cons_zero, List.getElem_cons_succ, List.setIfInBounds_toArray, List.set_cons_succ, List.set_cons_zero]
              refine wpAnyH_take (i := 9) (v := .agg (encK z).toArray) rfl (by kernel_rfl) (by kernel_rfl) (by kernel_rfl) (fun _ _ _ h => h) (tyKc.yieldsIf_load (by rfl) (.tmp 12) rfl gz 0 rfl z (fun _ h => RowC.of_blk h.2.1)) hS ?_
              simp only [Act.put, List.getElem_toArray, List.getElem_cons_zero, List.getElem_cons_succ, List.setIfInBounds_toArray, List.set_cons_succ, List.set_cons_zero]
              refine wpAnyH_take (i := 10) (v := .slice (some ⟨g2, o2, none⟩) N c5) rfl (by kernel_rfl) (by kernel_rfl) (by kernel_rfl) (fun _ _ _ h => h) (Or.inl ⟨by rfl, fun W _ => by go_simp; try with_reducible rfl⟩) hS ?_
              simp only [Act.put, List.getElem_toArray, List.getElem_cons_zero, List.getElem_cons_succ, List.setIfInBounds_toArray, List.set_cons_succ, List.set_cons_zero]
              refine wpAnyH_take (i := 11) (v := .slice (some ⟨g2, o2, none⟩) N c5) rfl (by kernel_rfl) (by kernel_rfl) (by kernel_rfl) (fun _ _ _ h => h) (Or.inl ⟨by rfl, fun W _ => by go_simp; try with_reducible rfl⟩) hS ?_
              simp only [Act.put, List.getElem_toArray, List.getElem_cons_zero, List.getElem_cons_succ, List.setIfInBounds_toArray, List.set_cons_succ, List.set_cons_zero]
              refine wpAnyH_take (i := 12) (v := .int .i64 N) rfl (by kernel_rfl) (by kernel_rfl) (by kernel_rfl) (fun _ _ _ h => h) (Or.inl ⟨by rfl, fun W _ => by go_simp; try with_reducible rfl⟩) hS ?_
              simp only [Act.put, List.getElem_toArray, List.getElem_cons_zero, List.getElem_cons_succ, List.setIfInBounds_toArray, List.set_cons_succ, List.set_cons_zero]
              refine wpAnyH_take (i := 13) (v := .int .i64 m) rfl (by kernel_rfl) (by kernel_rfl) (by kernel_rfl) (fun _ _ _ h => h) (Or.inl ⟨by rfl, fun W _ => by go_simp; try with_reducible rfl⟩) hS ?_
              simp only [Act.put, List.getElem_toArray, List.getElem_cons_zero, List.getElem_cons_succ, List.setIfInBounds_toArray, List.set_cons_succ, List.set_cons_zero]
              refine wpAnyH_take (i := 14) (v := .pointer (some ⟨g2, o2 + m * 32, none⟩)) rfl (by kernel_rfl) (by kernel_rfl) (by kernel_rfl) (fun _ _ _ h => h) (Or.inl ⟨by rfl, fun W _ => by go_simp; try with_reducible rfl⟩) hS ?_
              simp only [Act.put, List.getElem_toArray, List.getElem_cons_zero, List.getElem_cons_succ, List.setIfInBounds_toArray, List.set_cons_succ, List.set_cons_zero]
              refine wpAnyH_take (i := 15) (v := .agg (encK z).toArray) rfl (by kernel_rfl) (by kernel_rfl) (by kernel_rfl) (fun _ _ _ h => h) (tyKc.yieldsIf_load (by rfl) (.tmp 98) rfl (g2) (o2 + m * 32) rfl (z) (fun _ h => h.2.2)) hS ?_
              simp only [Act.put, List.getElem_toArray, List.getElem_cons_zero, List.getElem_cons_succ, List.setIfInBounds_toArray, List.set_cons_succ, List.set_cons_zero]
              refine wpAnyH_take (i := 16) (v := .bool true) rfl (by kernel_rfl) (by kernel_rfl) (by kernel_rfl) (fun _ _ _ h => h) (yieldsIf_eql_row (by rfl) 24 24 (.tmp 93) (.tmp 99) rfl (encK z).toArray (encK z).toArray rfl rfl (by kernel_rfl) true (fun V => (eqKy_run _ _ V).trans (by simp))) hS ?_
              simp only [Act.put, List.getElem_toArray, List.getElem_cons_zero, List.getElem_cons_succ, List.setIfInBounds_toArray, List.set_cons_succ, List.set_cons_zero]
              refine wpAnyH_take (i := 17) (v := .bool true) rfl (by kernel_rfl) (by kernel_rfl) (by kernel_rfl) (fun _ _ _ h => h) (Or.inl ⟨by rfl, fun W _ => by go_simp; try with_reducible rfl⟩) hS ?_
              simp only [Act.put, List.getElem_toArray, List.getElem_cons_zero, List.getElem_cons_succ, List.setIfInBounds_toArray, List.set_cons_succ, List.set_cons_zero]
              refine wpAnyH_take (i := 18) (v := .bool true) rfl (by kernel_rfl) (by kernel_rfl) (by kernel_rfl) (fun _ _ _ h => h) (Or.inl ⟨by rfl, fun W _ => by go_simp; try with_reducible rfl⟩) hS ?_
              simp only [Act.put, List.getElem_toArray, List.getElem_cons_zero, List.getElem_cons_succ, List.setIfInBounds_toArray, List.set_cons_succ, List.set_cons_zero]
              refine wpAnyH_take (i := 19) (v := .pointer (some ⟨gr, 0, none⟩)) rfl (by kernel_rfl) (by kernel_rfl) (by kernel_rfl) (fun _ _ _ h => h) (Or.inl ⟨by rfl, fun W _ => by go_simp; try with_reducible rfl⟩) hS ?_
              simp only [Act.put, List.getElem_toArray, List.getElem_cons_zero, List.getElem_cons_succ, List.setIfInBounds_toArray, List.set_cons_succ, List.set_cons_zero]
              refine wpAnyH_take (i := 20) (v := .slice A rl.length c) rfl (by kernel_rfl) (by kernel_rfl) (by kernel_rfl) (fun _ _ _ h => h) (Or.inl ⟨by rfl, fun W h => by have c1 : W.cell? ⟨gr, 0, none⟩ = some (.slice A rl.length c) := h.1.rb.cell 0; go_simp⟩) hS ?_
              simp only [Act.put, List.getElem_toArray, List.getElem_cons_zero, List.getElem_cons_succ, List.setIfInBounds_toArray, List.set_cons_succ, List.set_cons_zero]
              refine wpAnyH_take (i := 21) (v := .int .i64 rl.length) rfl (by kernel_rfl) (by kernel_rfl) (by kernel_rfl) (fun _ _ _ h => h) (Or.inl ⟨by rfl, fun W _ => by go_simp; try with_reducible rfl⟩) hS ?_
              simp only [Act.put, List.getElem_toArray, List.getElem_cons_zero, List.getElem_cons_succ, List.setIfInBounds_toArray, List.set_cons_succ, List.set_cons_zero]
              refine wpAnyH_take (i := 22) (v := .slice (some ⟨g2, o2, none⟩) N c5) rfl (by kernel_rfl) (by kernel_rfl) (by kernel_rfl) (fun _ _ _ h => h) (Or.inl ⟨by rfl, fun W _ => by go_simp; try with_reducible rfl⟩) hS ?_
              simp only [Act.put, List.getElem_toArray, List.getElem_cons_zero, List.getElem_cons_succ, List.setIfInBounds_toArray, List.set_cons_succ, List.set_cons_zero]
              refine wpAnyH_take (i := 23) (v := .int .i64 N) rfl (by kernel_rfl) (by kernel_rfl) (by kernel_rfl) (fun _ _ _ h => h) (Or.inl ⟨by rfl, fun W _ => by go_simp; try with_reducible rfl⟩) hS ?_
              simp only [Act.put, List.getElem_toArray, List.getElem_cons_zero, List.getElem_cons_succ, List.setIfInBounds_toArray, List.set_cons_succ, List.set_cons_zero]
              refine wpAnyH_take (i := 24) (v := .int .i64 rl.length) rfl (by kernel_rfl) (by kernel_rfl) (by kernel_rfl) (fun _ _ _ h => h) (Or.inl ⟨by rfl, fun W _ => by go_simp; try with_reducible rfl⟩) hS ?_
              simp only [Act.put, List.getElem_toArray, List.getElem_cons_zero, List.getElem_cons_succ, List.setIfInBounds_toArray, List.set_cons_succ, List.set_cons_zero]
              refine wpAnyH_take (i := 25) (v := .bool true) rfl (by kernel_rfl) (by kernel_rfl) (by kernel_rfl) (fun _ _ _ h => h) (Or.inl ⟨by rfl, fun W _ => by go_simp; try with_reducible rfl⟩) hS ?_
              simp only [Act.put, List.getElem_toArray, List.getElem_cons_zero, List.getElem_cons_succ, List.setIfInBounds_toArray, List.set_cons_succ, List.set_cons_zero]
              refine wpAnyH_take (i := 26) (v := .bool true) rfl (by kernel_rfl) (by kernel_rfl) (by kernel_rfl) (fun _ _ _ h => h) (Or.inl ⟨by rfl, fun W _ => by go_simp; try with_reducible rfl⟩) hS ?_
              simp only [Act.put, List.getElem_toArray, List.getElem_cons_zero, List.getElem_cons_succ, List.setIfInBounds_toArray, List.set_cons_succ, List.set_cons_zero]
              refine wpAnyH_ready (rs := [27]) (by kernel_rfl) (by simp) ?_
              refine AllReadyH.cons rfl (fun Kq hK => ?_) AllReadyH.nil
              go_simp
              refine hK.out _ _ hS (fun _ => ?_)
              clear hK Kq hS
              refine wpAnyH_done (by kernel_rfl) ?_ _
              go_wp2_with fail
              go_ret
              exact ⟨rfl, R8.out.below⟩
end Go.Proofs.Ytiifamfophbbcaa
