/- AnchorBack: the statement's walk. Written by genLAb.py. -/
import Derived.Test.YtiifamfophbbcaaAncU
namespace Go.Proofs.Ytiifamfophbbcaa
open Go.RowKit
set_option maxRecDepth 20000 in
set_option maxHeartbeats 4000000 in
theorem aback_walk (HNW : NewOk) (HPT : PutOk) (HBK : BackOk) (HHS : HasOk) (f : K32) (A0 : Option Addr) (c0 : Nat) (l : List K32) (at' : Int) (w : World) (hl : RowIn encK 32 w w.heap.size A0 c0 l) (hat : (Lit.int .u8 at').wf = true) :
    Calls Try.prog 5 #[.agg (encK f).toArray, .slice A0 l.length c0, .int .u8 at'] w fun e w' => e = .returned (.bool true) ∧ Below w.heap.size w w' := by
  have SH := Lib.hid (fun W => ashown_any HNW HPT HHS W)
  unfold NewOk at HNW
  unfold PutOk at HPT
  unfold BackOk at HBK
  unfold HasOk at HHS
  have HN := Lib.hid HNW
  have HP := Lib.hid HPT
  have HK := Lib.hid HBK
  have HH := Lib.hid HHS
  have HL := Lib.hid hl
  have H0 := Lib.hid ((Holds.nil w).box 24 (encK f).toArray)
  have hcu : 0 ≤ at' ∧ at' ≤ 255 := by simpa [Lit.wf, IntKind.min, IntKind.max, IntKind.signed, IntKind.bits] using hat
  obtain ⟨m, rfl⟩ : ∃ m : Nat, at' = m := ⟨at'.toNat, by omega⟩
  clear HNW HPT HBK HHS hat
  by_cases h100 : 100 < l.length
  · have hd : decide ((100 : Int) < (l.length : Int)) = true := by simp; omega
    clear hl hcu
    go_enter Try.func5, Try.ntmps5
    go_wp2_with fail
    refine (SH.out _).mono ?_
    rintro e w1 ⟨rfl, b1⟩
    have H1 := Lib.hid (H0.out.call b1)
    go_wp2_with fail
    go_ret
    exact ⟨rfl, H1.out.below⟩
  · have hd : decide ((100 : Int) < (l.length : Int)) = false := by simp; omega
    have hn100 : l.length ≤ 100 := by omega
    have HM := Lib.hid (show m ≤ 255 by omega)
    clear hl h100 hcu
    go_enter Try.func5, Try.ntmps5
    go_wp2_with fail
    refine (SH.out _).mono ?_
    rintro e w1 ⟨rfl, b1⟩
    have H1 := Lib.hid (H0.out.call b1)
    clear b1 H0
    go_wp2_with ((with_reducible refine at_load 3 ?_); refine tyKc.wpList_load rfl (.tmp 3) rfl (w.heap.size) 0 rfl (f) (RowC.of_blk (H1.out.at (x := (w.heap.size, 24, (encK f).toArray)) (by simp))) ?_)
    refine (HN.out f _).mono ?_
    rintro e w2 ⟨A, c, rfl, r2, b2⟩
    have R2 := Lib.hid r2
    have H2 := Lib.hid (H1.out.call b2)
    clear r2 b2 H1
    go_wp2_with (first
        | ((with_reducible refine at_store 7 26 ?_); refine tyRg.wpList_store rfl (.tmp 7) (.tmp 26) rfl rfl w2.heap.size ((A, 1, c)) rfl rfl 27 _ (Blk.new w2 27 _) rfl ?_; intro w3 o3 b3
           have H3 := Lib.hid (H2.out.put o3 b3)
           have S3 := Lib.hid (show RgS w w.heap.size f w2.heap.size (lastN 8 (f :: l.take 0)) A c w3 from ⟨(H2.out.put o3 b3).below, (H2.out.put o3 b3).at (x := (w.heap.size, 24, (encK f).toArray)) (by simp), b3, by have := ((R2.out.below ((Below.refl _ _).alloc (Nat.le_refl _) _)).below (o3.below (B := w2.heap.size) (by simp))).more (show w2.heap.size ≤ w3.heap.size by rw [o3.size]; simp); exact this, H2.out.below.size⟩)
           have Z3 := Lib.hid (show w3.heap.size = w2.heap.size + 1 by rw [o3.size, World.size_alloc])
           clear o3 b3)
        | ((with_reducible refine at_load 3 ?_); refine tyKc.wpList_load rfl (.tmp 3) rfl (w.heap.size) 0 rfl (f) (RowC.of_blk (H3.out.at (x := (w.heap.size, 24, (encK f).toArray)) (by simp))) ?_)
        | ((with_reducible refine at_buildSlice 28 ?_); refine tyKy.wpList_build rfl azsK 1 _ rfl [f] rfl (by omega) (by omega) (by kernel_rfl) ?_))
    have HGK := Lib.hid (show w.heap.size < w2.heap.size from (H2.out.at (x := (w.heap.size, 24, (encK f).toArray)) (by simp)).lt)
    have O0 := Lib.hid (show World.ownsRow (w3.alloc (.cells (cellsOf encK [f]).toArray 24)) (w2.heap.size + 1) 24 32 (.slice (some ⟨w3.heap.size, 0, none⟩) 1 1) (f :: l.take 0).length (cellsOf encK (f :: l.take 0)) from aown_one (Blk.new w3 24 _) (by rw [Z3.out]; exact Nat.le_refl _))
    have S0 := Lib.hid (S3.out.call (show Below w3.heap.size w3 (w3.alloc (.cells (cellsOf encK [f]).toArray 24)) from (Below.refl _ _).alloc (Nat.le_refl _) _))
    have P0 := Lib.hid (show ∀ a, A = some a → some a.block ≠ (Value.slice (some ⟨w3.heap.size, 0, none⟩) 1 1).ownBlock from fun a ha he => by
      have h1 := S3.out.lt (lastN_ne (by omega) (by simp)) a ha
      have h2 : a.block = w3.heap.size := Option.some.inj he
      omega)
    obtain ⟨gr, hgr⟩ : ∃ gr, w2.heap.size = gr := ⟨_, rfl⟩
    rw [hgr] at S0 O0 HGK ⊢
    clear hgr H2 R2 hd H3 S3 Z3
    go_loopw [8, 9] (fun so si wr => ∃ (j : Nat) (rl : List K32) (A : Option Addr) (c : Nat), si = .int .i64 j ∧ j ≤ l.length ∧ Hid (rl = lastN 8 (f :: l.take j)) ∧ Hid (RgS w w.heap.size f gr rl A c wr) ∧ Hid (wr.ownsRow (gr + 1) 24 32 so (f :: l.take j).length (cellsOf encK (f :: l.take j))) ∧ Hid (∀ a, A = some a → some a.block ≠ so.ownBlock)) (fun _ si _ => l.length - (intOf si).toNat)
    case atStart => exact ⟨0, _, A, c, rfl, by omega, Lib.hid rfl, S0, O0, P0⟩
    case round =>
      clear S0 O0 P0
      obtain ⟨j, rl, A, c, rfl, hj, HR, R0, OW, AP⟩ := hrel
      have HLN := Lib.hid (show rl.length ≤ 8 by rw [HR.out, lastN_len]; omega)
      by_cases hlt : j < l.length
      · have hd : decide ((j : Int) < (l.length : Int)) = true := by simp; omega
        obtain ⟨g, o, hA, hg, hc⟩ := HL.out.at encK_len hlt
        obtain ⟨x, hx⟩ : ∃ x, l[j]'hlt = x := ⟨_, rfl⟩
        rw [hx] at hc
        subst hA
        have HG := Lib.hid hg
        have XA := Lib.hid (show ∀ W, Below w.heap.size w W → RowC W g (o + j * 32) (encK x) from fun W hb => hc.below hb hg)
        have HTS := Lib.hid (show (f :: l.take j) ++ [x] = f :: l.take (j + 1) by rw [List.take_succ_eq_append_getElem hlt, hx]; rfl)
        have hi0 : (0 : Int) ≤ (j : Int) := by omega
        have hi1 : (j : Int) < (l.length : Int) := by omega
        have HLL := Lib.hid (show (f :: l.take j).length ≤ 1000 by rw [List.length_cons, List.length_take]; omega)
        obtain ⟨rl2, hrl2⟩ : ∃ rl2, putR rl x = rl2 := ⟨_, rfl⟩
        have HPU := Lib.hid hrl2
        have HR2 := Lib.hid (show rl2 = lastN 8 (f :: l.take (j + 1)) by rw [← hrl2, HR.out, ← HTS.out]; exact putR_of _ _)
        have HX := Lib.hid (XA.out _ R0.out.below)
        clear hx hc hg hrl2
        go_wp2_with fail
        have AS := Lib.hid R0.out.drew
        have XD := Lib.hid (show RowC wr.drew g (o + j * 32) (encK x) from HX.out)
        refine wp_region_held_drew (S := fun W => RowC W g (o + j * 32) (encK x)) (by kernel_rfl) XD.out ?_
        intro hS
        refine wpAnyH_take (i := 1) (v := .slice (some ⟨g, o, none⟩) l.length c0) rfl (by kernel_rfl) (by kernel_rfl) (by kernel_rfl) (fun _ _ _ h => h) (Or.inl ⟨by rfl, fun W _ => by go_simp; try with_reducible rfl⟩) hS ?_
        simp only [Act.put, List.getElem_toArray, List.getElem_cons_zero, List.getElem_cons_succ, List.setIfInBounds_toArray, List.set_cons_succ, List.set_cons_zero]
        refine wpAnyH_take (i := 2) (v := .int .i64 j) rfl (by kernel_rfl) (by kernel_rfl) (by kernel_rfl) (fun _ _ _ h => h) (Or.inl ⟨by rfl, fun W _ => by go_simp; try with_reducible rfl⟩) hS ?_
        simp only [Act.put, List.getElem_toArray, List.getElem_cons_zero, List.getElem_cons_succ, List.setIfInBounds_toArray, List.set_cons_succ, List.set_cons_zero]
        refine wpAnyH_take (i := 3) (v := .pointer (some ⟨g, o + j * 32, none⟩)) rfl (by kernel_rfl) (by kernel_rfl) (by kernel_rfl) (fun _ _ _ h => h) (Or.inl ⟨by rfl, fun W _ => by go_simp; try with_reducible rfl⟩) hS ?_
        simp only [Act.put, List.getElem_toArray, List.getElem_cons_zero, List.getElem_cons_succ, List.setIfInBounds_toArray, List.set_cons_succ, List.set_cons_zero]
        refine wpAnyH_take (i := 4) (v := .agg (encK x).toArray) rfl (by kernel_rfl) (by kernel_rfl) (by kernel_rfl) (fun _ _ _ h => h) (tyKc.yieldsIf_load (by rfl) (.tmp 38) rfl (g) (o + j * 32) rfl (x) (fun _ h => h)) hS ?_
        simp only [Act.put, List.getElem_toArray, List.getElem_cons_zero, List.getElem_cons_succ, List.setIfInBounds_toArray, List.set_cons_succ, List.set_cons_zero]
        refine wpAnyH_ready (rs := [0]) (by kernel_rfl) (by simp) ?_
        refine AllReadyH.cons rfl (fun Kq hK => ?_) AllReadyH.nil
        refine tyRg.step_load (by rfl) (.tmp 7) rfl gr 0 rfl (A, rl.length, c) (RowC.of_blk AS.out.rb) ?_
        refine hK.out _ _ hS (fun hS => ?_)
        clear hK Kq
        simp only [Act.put, List.getElem_toArray, List.getElem_cons_zero, List.setIfInBounds_toArray, List.set_cons_succ, List.set_cons_zero]
        refine wpAnyH_ready (rs := [5]) (by kernel_rfl) (by simp) ?_
        refine AllReadyH.cons rfl (fun Kq hK => ?_) AllReadyH.nil
        go_simp
        refine (HP.out A c rl x _ (by have := HLN.out; omega) AS.out.row).mono ?_
        rintro e x1 ⟨A1, c1, rfl, r1, f1, b1⟩
        rw [HPU.out] at r1 ⊢
        have R1 := Lib.hid r1
        have F1 := Lib.hid (And.intro f1 AS.out.below.size)
        have S1 := Lib.hid (AS.out.call b1)
        have X1 := Lib.hid (XD.out.below b1 (Nat.lt_of_lt_of_le HG.out AS.out.below.size))
        have OW1 := Lib.hid (aown_below (show World.ownsRow wr.drew (gr + 1) 24 32 u8 (f :: l.take j).length (cellsOf encK (f :: l.take j)) from OW.out) b1)
        refine hK.out _ _ X1.out (fun hS => ?_)
        clear hK Kq b1 r1 f1 AS XD
        refine wpAnyH_ready (rs := [6]) (by kernel_rfl) (by simp) ?_
        refine AllReadyH.cons rfl (fun Kq hK => ?_) AllReadyH.nil
        refine tyRg.step_store rfl (.tmp 7) (.tmp 40) rfl rfl gr (A1, rl2.length, c1) rfl rfl 27 _ S1.out.rb rfl ?_
        intro w4 o4 b4
        have R10 := Lib.hid (S1.out.turn R1.out o4 b4)
        have OW4 := Lib.hid (aown_only OW1.out o4 (by simp))
        refine hK.out _ _ (arowC_only X1.out o4 (by have := HG.out; have := S1.out.hgr; simp; omega)) (fun _ => ?_)
        clear hK Kq hS o4 b4 S1 X1 R1
        refine wpAnyH_done (by kernel_rfl) ?_ _
        have AP1 := Lib.hid (show ∀ a, A1 = some a → some a.block ≠ u8.ownBlock from fun a ha he => by
          have h1 := F1.out.1 a ha
          have h2 := aown_lt OW.out a.block he.symm
          have h3 : wr.drew.heap.size = wr.heap.size := rfl
          omega)
        have X4 := Lib.hid (XA.out _ R10.out.below)
        have L4 := Lib.hid (R10.out.lt (by rw [HR2.out]; exact lastN_ne (by omega) (by simp)))
        have G4 := Lib.hid (show gr + 1 ≤ w4.heap.size from R10.out.rb.lt)
        clear R0 OW AP F1 OW1
        go_wp2_with (first
          | ((with_reducible refine at_load 44 ?_); refine tyKc.wpList_load rfl (.tmp 44) rfl g (o + j * 32) rfl x X4.out ?_)
          | ((with_reducible refine at_buildSlice 46 ?_); refine tyKy.wpList_build rfl azsK 1 _ rfl [x] rfl (by omega) (by omega) (by kernel_rfl) ?_)
          | ((with_reducible refine at_appendg 47 41 46 ?_); refine tyKy.wpList_append1b rfl azcK 32 azbK (by omega) (.tmp 41) (.tmp 46) rfl (gr + 1) _ (f :: l.take j) rfl (OW4.out.alloc _) _ 1 x rfl (Blk.new _ _ _) (by have := HLL.out; omega) (by have := G4.out; simp; omega) ?_; intro v5 w5 p5 g5 d5
             have BL5 := Lib.hid (aown_grown (OW4.out.alloc _) g5 (by have := G4.out; simp; omega))
             have R11 := Lib.hid ((R10.out.call ((Below.refl _ _).alloc (Nat.le_refl _) _)).grow g5 BL5.out HGK.out (fun a ha => AP1.out a ha))
             have OW5 := Lib.hid (aown_congr p5 HTS.out)
             have AP5 := Lib.hid (show ∀ a, A1 = some a → some a.block ≠ v5.ownBlock from fun a ha he => by
               have h1 := L4.out a ha
               rcases d5 with h | h
               · exact AP1.out a ha (he.trans h)
               · rw [h, World.size_alloc] at he
                 have := Option.some.inj he
                 omega)
             clear p5 g5 d5 BL5))
        go_roundw
        case rel => exact ⟨j + 1, rl2, A1, c1, by go_num, by omega, HR2, R11, OW5, AP5⟩
        case measure => simp [intOf]; omega
      · have hd : decide ((j : Int) < (l.length : Int)) = false := by simp; omega
        obtain ⟨all, hall⟩ : ∃ all, f :: l = all := ⟨_, rfl⟩
        have hte : f :: l.take j = all := by rw [List.take_of_length_le (by omega), hall]
        have HRA := Lib.hid (show rl = undoR all 0 by rw [HR.out, hte, undoR_zero])
        obtain ⟨N, hN⟩ : ∃ N, all.length = N := ⟨_, rfl⟩
        have hN1 : N = l.length + 1 := by rw [← hN, ← hall]; simp
        have HNA := Lib.hid hN
        have OWA := aown_congr OW.out hte
        obtain ⟨A5, c5, hv5, r5⟩ := RowIn.of_own encK_len OWA
        obtain ⟨g2, o2, hA5, hg2, _⟩ := r5.cells (by intro e; rw [e] at hN; simp at hN; omega)
        subst hA5
        rw [hN] at hv5
        have AL := Lib.hid r5
        obtain ⟨gp, hgp⟩ : ∃ gp, m % 5 = gp := ⟨_, rfl⟩
        have hg4 : gp ≤ 4 := by omega
        obtain ⟨nn, hnn⟩ : ∃ nn, min gp l.length = nn := ⟨_, rfl⟩
        have hm1 : Int.tmod (m : Int) 5 = (gp : Int) := by rw [Int.tmod_eq_emod_of_nonneg (by omega)]; omega
        have hm2 : (m : Int) % 5 = (gp : Int) := by omega
        have hm3 : IntKind.i64.wrap (m : Int) = (m : Int) := by have := HM.out; rw [IntKind.wrap_i64]; omega
        have hmi : min (gp : Int) (l.length : Int) = (nn : Int) := by omega
        have HNN := Lib.hid (show nn ≤ 4 ∧ nn + 1 ≤ N from ⟨by omega, by omega⟩)
        have HN2 := Lib.hid (show N ≤ 101 by omega)
        clear OWA r5 hte hall hN OW AP HR HGK HLN hgp hnn hN1
        subst hv5
        go_wp2_with fail
        clear hd hj hlt hm1 hm2 hm3 hmi
        obtain ⟨wo, rfl⟩ : ∃ q, q = wr := ⟨_, rfl⟩
        have hnn4 : nn ≤ 4 := HNN.out.1
        go_loopw [11] (fun si wr => ∃ (i : Nat) (rl : List K32) (A : Option Addr) (c : Nat), si = .int .i64 i ∧ i ≤ nn ∧ Hid (rl = undoR all i) ∧ Hid (RgS w w.heap.size f gr rl A c wr) ∧ Hid (RowIn encK 32 wr wr.heap.size (some ⟨g2, o2, none⟩) c5 all)) (fun si _ => nn - (intOf si).toNat)
        case atStart => exact ⟨0, rl, A, c, rfl, by omega, HRA, R0, AL⟩
        case round =>
          clear R0 AL hg2 HRA
          obtain ⟨i, rl, A, c, rfl, hin, HRA, R0, AL⟩ := hrel
          have HLN := Lib.hid (show rl.length ≤ 8 by rw [HRA.out, undoR_len]; omega)
          by_cases hlt : i < nn
          · have hd : decide ((i : Int) < (nn : Int)) = true := by simp; omega
            have hub := undoR_back all i (by omega) (by rw [HNA.out]; have := HNN.out; omega)
            obtain ⟨rl2, hrl2⟩ : ∃ rl2, backR rl = rl2 := ⟨_, rfl⟩
            have HRB := Lib.hid (show backE rl = 0 by rw [HRA.out]; exact hub.2)
            have HR2 := Lib.hid (show rl2 = undoR all (i + 1) by rw [← hrl2, HRA.out]; exact hub.1)
            have HRL := Lib.hid hrl2
            clear hub hrl2
            go_wp2_with ((with_reducible refine at_load 7 ?_); refine tyRg.wpList_load rfl (.tmp 7) rfl gr 0 rfl (A, rl.length, c) (RowC.of_blk R0.out.rb) ?_)
            refine (HK.out A c rl _ (by have := HLN.out; omega) R0.out.row).mono ?_
            rintro e x1 ⟨A1, c1, rfl, r1, b1⟩
            rw [HRL.out] at r1 ⊢
            rw [HRB.out]
            have Q1 := Lib.hid r1
            have R1 := Lib.hid (R0.out.call b1)
            have AL1 := Lib.hid ((AL.out.below b1).more b1.size)
            clear b1 r1 R0 AL
            go_wp2_with (first
              | ((with_reducible refine at_store 12 62 ?_); refine tyRg.wpList_store rfl (.tmp 12) (.tmp 62) rfl rfl x1.heap.size (A1, rl2.length, c1) rfl rfl 27 _ (Blk.new x1 27 _) rfl ?_; intro w5 o5 b5
                 have BB5 := Lib.hid (show Below x1.heap.size x1 w5 from ((Below.refl _ _).alloc (Nat.le_refl _) _).trans (o5.below (by simp)))
                 have R5 := Lib.hid (R1.out.call BB5.out)
                 have Q5 := Lib.hid ((Q1.out.below BB5.out).more BB5.out.size)
                 have AL5 := Lib.hid ((AL1.out.below BB5.out).more BB5.out.size)
                 have K5 := Lib.hid (show Blk w5 x1.heap.size 27 (encR (A1, rl2.length, c1)).toArray from b5)
                 clear o5 b5 BB5)
              | ((with_reducible refine at_load 12 ?_); refine tyRg.wpList_load rfl (.tmp 12) rfl x1.heap.size 0 rfl (A1, rl2.length, c1) (RowC.of_blk K5.out) ?_)
              | ((with_reducible refine at_store 7 66 ?_); refine tyRg.wpList_store rfl (.tmp 7) (.tmp 66) rfl rfl gr (A1, rl2.length, c1) rfl rfl 27 _ R5.out.rb rfl ?_; intro w6 o6 b6
                 have R6 := Lib.hid (R5.out.turn Q5.out o6 b6)
                 have AL6 := Lib.hid (show RowIn encK 32 w6 w6.heap.size (some ⟨g2, o2, none⟩) c5 all from by
                   rw [o6.size]
                   exact arow_only' AL5.out o6 (fun hn g o hA => by have := ring_apart R5.out.rb AL5.out hn g o hA; simp; omega))
                 clear o6 b6))
            go_roundw
            case rel => exact ⟨i + 1, rl2, A1, c1, by go_num, by omega, HR2, R6, AL6⟩
            case measure => simp [intOf]; omega
          · have hd : decide ((i : Int) < (nn : Int)) = false := by simp; omega
            obtain rfl : i = nn := by omega
            obtain ⟨M, hM⟩ : ∃ M, N - i = M := ⟨_, rfl⟩
            have hM2 : (N : Int) - (i : Int) = (M : Int) := by have := HNN.out; omega
            have hMw : IntKind.i64.wrap (M : Int) = (M : Int) := by have := HN2.out; rw [IntKind.wrap_i64]; omega
            have hM1 : M ≤ 101 := by have := HN2.out; omega
            have hcap := AL.out.le
            have hs : ∀ W, (Instr.slice 22 (.slice (some ⟨g2, o2, none⟩) N c5) none (some (.int .i64 (M : Int))) none).run Try.prog W = .ok (.slice (some ⟨g2, o2, none⟩) M c5) W := fun W => tyKy.slice_to W (some ⟨g2, o2, none⟩) N c5 M (by have := HNA.out; omega)
            obtain ⟨al2, hal2⟩ : ∃ al2, all.take M = al2 := ⟨_, rfl⟩
            have HA2 := Lib.hid (show all.take (all.length - i) = al2 by rw [HNA.out, hM]; exact hal2)
            have HMA := Lib.hid (show al2.length = M by rw [← hal2, List.length_take, HNA.out]; omega)
            have AL2 := Lib.hid (show RowIn encK 32 wr wr.heap.size (some ⟨g2, o2, none⟩) c5 al2 from by rw [← hal2]; exact AL.out.take encK_len M)
            clear hcap hal2 AL hM
            go_wp2_with fail
            clear hs hM2 hMw hd hlt hin
            obtain ⟨wp, rfl⟩ : ∃ q, q = wr := ⟨_, rfl⟩
            go_loopw [14] (fun si wr => ∃ q : Nat, si = .int .i64 q ∧ q ≤ 4 ∧ q ≤ M ∧ Hid (RgS w w.heap.size f gr rl A c wr) ∧ Hid (RowIn encK 32 wr wr.heap.size (some ⟨g2, o2, none⟩) c5 al2)) (fun si _ => 4 - (intOf si).toNat)
            case atStart => exact ⟨0, rfl, by omega, by omega, R0, AL2⟩
            case round =>
              clear R0 AL2
              obtain ⟨q, rfl, hq4, hqM, R0, AL⟩ := hrel
              by_cases hlt : q < 4 ∧ q < M
              · have d1 : decide ((q : Int) < 4) = true := by simp; omega
                have d2 : decide ((q : Int) < (M : Int)) = true := by simp; omega
                obtain ⟨p, hp⟩ : ∃ p, M - 1 - q = p := ⟨_, rfl⟩
                have hpl : p < al2.length := by rw [HMA.out]; omega
                obtain ⟨g', o', e2, hg2, hc⟩ := AL.out.at encK_len hpl
                obtain ⟨rfl, rfl⟩ : g2 = g' ∧ o2 = o' := by simpa using e2
                obtain ⟨y, hy⟩ : ∃ y, al2[p]'hpl = y := ⟨_, rfl⟩
                rw [hy] at hc
                have YA := Lib.hid hc
                have HG2 := Lib.hid hg2
                have hql : q < al2.length := by rw [HMA.out]; omega
                have hyy : al2[al2.length - 1 - q]'(by omega) = y := by rw [← hy]; congr 1; rw [HMA.out]; exact hp
                have HHV := Lib.hid (show hasR rl y = true by
                  have h1 := undoR_has all i q hnn4 hlt.1 (by rw [HA2.out]; exact hql)
                  simp only [HA2.out] at h1
                  rw [HRA.out, ← hyy]
                  exact h1)
                have hp2 : (M : Int) - 1 - (q : Int) = (p : Int) := by omega
                have hi0 : (0 : Int) ≤ (p : Int) := by omega
                have hi1 : (p : Int) < (M : Int) := by omega
                have hmw : IntKind.i64.wrap ((M : Int) - 1) = (M : Int) - 1 := by rw [IntKind.wrap_i64]; omega
                have hpw : IntKind.i64.wrap (p : Int) = (p : Int) := by rw [IntKind.wrap_i64]; omega
                have HJ := Lib.hid (show q + 1 ≤ 4 ∧ q + 1 ≤ M from ⟨by omega, by omega⟩)
                clear e2 hc hg2 hql hyy hy hp
                go_wp2_with fail
                have AS := Lib.hid R0.out.drew
                have YD := Lib.hid (show RowC wr.drew g2 (o2 + p * 32) (encK y) from YA.out)
                refine wp_region_held_drew (S := fun W => RgS w w.heap.size f gr rl A c W ∧ RowC W g2 (o2 + p * 32) (encK y)) (by kernel_rfl) ⟨AS.out, YD.out⟩ ?_
                intro hS
                refine wpAnyH_take (i := 0) (v := .agg (encR (A, rl.length, c)).toArray) rfl (by kernel_rfl) (by kernel_rfl) (by kernel_rfl) (fun _ _ _ h => h) (tyRg.yieldsIf_load (by rfl) (.tmp 7) rfl gr 0 rfl (A, rl.length, c) (fun _ h => RowC.of_blk h.1.rb)) hS ?_
                simp only [Act.put, List.getElem_toArray, List.getElem_cons_zero, List.setIfInBounds_toArray, List.set_cons_succ, List.set_cons_zero]
                refine wpAnyH_take (i := 1) (v := .slice (some ⟨g2, o2, none⟩) M c5) rfl (by kernel_rfl) (by kernel_rfl) (by kernel_rfl) (fun _ _ _ h => h) (Or.inl ⟨by rfl, fun W _ => by go_simp; try with_reducible rfl⟩) hS ?_
                simp only [Act.put, List.getElem_toArray, List.getElem_cons_zero, List.getElem_cons_succ, List.setIfInBounds_toArray, List.set_cons_succ, List.set_cons_zero]
                refine wpAnyH_take (i := 2) (v := .slice (some ⟨g2, o2, none⟩) M c5) rfl (by kernel_rfl) (by kernel_rfl) (by kernel_rfl) (fun _ _ _ h => h) (Or.inl ⟨by rfl, fun W _ => by go_simp; try with_reducible rfl⟩) hS ?_
                simp only [Act.put, List.getElem_toArray, List.getElem_cons_zero, List.getElem_cons_succ, List.setIfInBounds_toArray, List.set_cons_succ, List.set_cons_zero]
                refine wpAnyH_take (i := 3) (v := .int .i64 M) rfl (by kernel_rfl) (by kernel_rfl) (by kernel_rfl) (fun _ _ _ h => h) (Or.inl ⟨by rfl, fun W _ => by go_simp; try with_reducible rfl⟩) hS ?_
                simp only [Act.put, List.getElem_toArray, List.getElem_cons_zero, List.getElem_cons_succ, List.setIfInBounds_toArray, List.set_cons_succ, List.set_cons_zero]
                refine wpAnyH_take (i := 4) (v := .int .i64 ((M : Int) - 1)) rfl (by kernel_rfl) (by kernel_rfl) (by kernel_rfl) (fun _ _ _ h => h) (Or.inl ⟨by rfl, fun W _ => by go_simp; try with_reducible rfl⟩) hS ?_
                simp only [Act.put, List.getElem_toArray, List.getElem_cons_zero, List.getElem_cons_succ, List.setIfInBounds_toArray, List.set_cons_succ, List.set_cons_zero]
                refine wpAnyH_take (i := 5) (v := .int .i64 q) rfl (by kernel_rfl) (by kernel_rfl) (by kernel_rfl) (fun _ _ _ h => h) (Or.inl ⟨by rfl, fun W _ => by go_simp; try with_reducible rfl⟩) hS ?_
                simp only [Act.put, List.getElem_toArray, List.getElem_cons_zero, List.getElem_cons_succ, List.setIfInBounds_toArray, List.set_cons_succ, List.set_cons_zero]
                refine wpAnyH_take (i := 6) (v := .int .i64 p) rfl (by kernel_rfl) (by kernel_rfl) (by kernel_rfl) (fun _ _ _ h => h) (Or.inl ⟨by rfl, fun W _ => by go_simp; try with_reducible rfl⟩) hS ?_
                simp only [Act.put, List.getElem_toArray, List.getElem_cons_zero, List.getElem_cons_succ, List.setIfInBounds_toArray, List.set_cons_succ, List.set_cons_zero]
                refine wpAnyH_take (i := 7) (v := .pointer (some ⟨g2, o2 + p * 32, none⟩)) rfl (by kernel_rfl) (by kernel_rfl) (by kernel_rfl) (fun _ _ _ h => h) (Or.inl ⟨by rfl, fun W _ => by go_simp; try with_reducible rfl⟩) hS ?_
                simp only [Act.put, List.getElem_toArray, List.getElem_cons_zero, List.getElem_cons_succ, List.setIfInBounds_toArray, List.set_cons_succ, List.set_cons_zero]
                refine wpAnyH_take (i := 8) (v := .agg (encK y).toArray) rfl (by kernel_rfl) (by kernel_rfl) (by kernel_rfl) (fun _ _ _ h => h) (tyKc.yieldsIf_load (by rfl) (.tmp 90) rfl (g2) (o2 + p * 32) rfl (y) (fun _ h => h.2)) hS ?_
                simp only [Act.put, List.getElem_toArray, List.getElem_cons_zero, List.getElem_cons_succ, List.setIfInBounds_toArray, List.set_cons_succ, List.set_cons_zero]
                refine wpAnyH_ready (rs := [9]) (by kernel_rfl) (by simp) ?_
                refine AllReadyH.cons rfl (fun Kq hK => ?_) AllReadyH.nil
                go_simp
                refine (HH.out A c rl y _ (by have := HLN.out; omega) AS.out.row).mono ?_
                rintro e x1 ⟨rfl, b1⟩
                rw [HHV.out]
                have R9 := Lib.hid (AS.out.call b1)
                have AL9 := Lib.hid ((AL.out.below (show Below wr.heap.size wr x1 from ((Below.refl wr.heap.size wr).drew).trans b1)).more b1.size)
                refine hK.out _ _ ⟨R9.out, YD.out.below b1 (Nat.lt_of_lt_of_le HG2.out (Nat.le_refl _))⟩ (fun hS => ?_)
                clear hK Kq b1 AS
                refine wpAnyH_take (i := 10) (v := .bool false) rfl (by kernel_rfl) (by kernel_rfl) (by kernel_rfl) (fun _ _ _ h => h) (Or.inl ⟨by rfl, fun W _ => by go_simp; try with_reducible rfl⟩) hS ?_
                simp only [Act.put, List.getElem_toArray, List.getElem_cons_zero, List.getElem_cons_succ, List.setIfInBounds_toArray, List.set_cons_succ, List.set_cons_zero]
                refine wpAnyH_done (by kernel_rfl) ?_ _
                clear hS YD YA
                go_wp2_with fail
                go_roundw
                case rel => exact ⟨q + 1, by go_num, HJ.out.1, HJ.out.2, R9, AL9⟩
                case measure => simp [intOf]; omega
              · have HZ := Lib.hid (show backR [f] = [] ∧ backE [f] = 166 from ⟨rfl, rfl⟩)
                by_cases h4 : q < 4
                all_goals
                  go_wp2_with ((with_reducible refine at_load 3 ?_); refine tyKc.wpList_load rfl (.tmp 3) rfl (w.heap.size) 0 rfl (f) (RowC.of_blk R0.out.kb) ?_)
                  refine (HN.out f _).mono ?_
                  rintro e w6 ⟨A6, c6, rfl, r6, b6⟩
                  have Q6 := Lib.hid r6
                  have R6 := Lib.hid (R0.out.call b6)
                  clear b6 r6 R0
                  go_wp2_with fail
                  refine (HK.out A6 c6 [f] _ (by simp) Q6.out).mono ?_
                  rintro e w7 ⟨A7, c7, rfl, r7, b7⟩
                  rw [HZ.out.1, HZ.out.2]
                  have R7 := Lib.hid (R6.out.call b7)
                  clear b7 r7 R6
                  go_wp2_with (first
                    | ((with_reducible refine at_store 15 98 ?_); refine tyRg.wpList_store rfl (.tmp 15) (.tmp 98) rfl rfl w7.heap.size (A7, 0, c7) rfl rfl 27 _ (Blk.new w7 27 _) rfl ?_; intro w8 o8 b8
                       have R8 := Lib.hid (R7.out.call (((Below.refl _ _).alloc (Nat.le_refl _) _).trans (o8.below (by simp))))
                       clear o8 b8))
                  go_ret
                  exact ⟨rfl, R8.out.below⟩
end Go.Proofs.Ytiifamfophbbcaa
