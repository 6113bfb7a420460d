/- AnchorSame: the statement's walk. Written by genLAs.py. -/
import Derived.Test.YtiifamfophbbcaaAncU
namespace Go.Proofs.Ytiifamfophbbcaa
open Go.RowKit
def gapK (i : Nat) : K32 := ⟨77 :: UInt8.ofNat i :: List.replicate 30 0, by simp⟩
theorem gapK_cells (i : Nat) (h : i < 256) : (#[.int .u8 77, .int .u8 (i : Int), .int .u8 0, .int .u8 0, .int .u8 0, .int .u8 0, .int .u8 0, .int .u8 0, .int .u8 0, .int .u8 0, .int .u8 0, .int .u8 0, .int .u8 0, .int .u8 0, .int .u8 0, .int .u8 0, .int .u8 0, .int .u8 0, .int .u8 0, .int .u8 0, .int .u8 0, .int .u8 0, .int .u8 0, .int .u8 0, .int .u8 0, .int .u8 0, .int .u8 0, .int .u8 0, .int .u8 0, .int .u8 0, .int .u8 0, .int .u8 0] : Array Value) = (encK (gapK i)).toArray := by
  rw [encK_arr]
  simp [gapK, bytesA]
  omega
set_option maxRecDepth 20000 in
set_option maxHeartbeats 4000000 in
theorem asame_walk (HNW : NewOk) (HPT : PutOk) (HHS : HasOk) (k : K32) (A0 : Option Addr) (c0 : Nat) (l : List K32) (at' : Int) (w : World) (hl : RowIn encK 32 w w.heap.size A0 c0 l) (hat : (Lit.int .u8 at').wf = true) :
    Calls Try.prog 8 #[.agg (encK k).toArray, .slice A0 l.length c0, .int .u8 at'] w fun e w' => e = .returned (.bool true) ∧ Below w.heap.size w w' := by
  have SH := Lib.hid (fun W => ashown_any HNW HPT HHS W)
  unfold NewOk at HNW
  unfold PutOk at HPT
  unfold HasOk at HHS
  have HN := Lib.hid HNW
  have HP := Lib.hid HPT
  have HH := Lib.hid HHS
  have HL := Lib.hid hl
  have hcu : 0 ≤ at' ∧ at' ≤ 255 := by simpa [Lit.wf, IntKind.min, IntKind.max, IntKind.signed, IntKind.bits] using hat
  obtain ⟨m, rfl⟩ : ∃ m : Nat, at' = m := ⟨at'.toNat, by omega⟩
  obtain ⟨gp, hgp⟩ : ∃ gp, m % 4 = gp := ⟨_, rfl⟩
  have hg4 : gp < 4 := by omega
  have hm1 : Int.tmod (m : Int) 4 = (gp : Int) := by rw [Int.tmod_eq_emod_of_nonneg (by omega)]; omega
  have hm2 : (m : Int) % 4 = (gp : Int) := by omega
  have hm3 : IntKind.i64.wrap (m : Int) = (m : Int) := by rw [IntKind.wrap_i64]; omega
  clear HNW HPT HHS hat hcu hgp
  by_cases h60 : 60 < l.length
  · have hd : decide ((60 : Int) < (l.length : Int)) = true := by simp; omega
    have H0 := Lib.hid ((Holds.nil w).box 24 (encK k).toArray)
    clear hl
    go_enter Try.func8, Try.ntmps8
    go_wp2_with fail
    refine (SH.out _).mono ?_
    rintro e w1 ⟨rfl, b1⟩
    have H1 := Lib.hid (H0.out.call b1)
    go_wp2_with fail
    go_ret
    exact ⟨rfl, H1.out.below⟩
  · have hd : decide ((60 : Int) < (l.length : Int)) = false := by simp; omega
    have hn60 : l.length ≤ 60 := by omega
    have H0 := Lib.hid ((Holds.nil w).box 24 (encK k).toArray)
    clear hl h60
    go_enter Try.func8, Try.ntmps8
    go_wp2_with fail
    refine (SH.out _).mono ?_
    rintro e w1 ⟨rfl, b1⟩
    have H1 := Lib.hid (H0.out.call b1)
    clear b1 H0
    go_wp2_with ((with_reducible refine at_load 3 ?_); refine tyKc.wpList_load rfl (.tmp 3) rfl (w.heap.size) 0 rfl (k) (RowC.of_blk (H1.out.at (x := (w.heap.size, 24, (encK k).toArray)) (by simp))) ?_)
    refine (HN.out k _).mono ?_
    rintro e w2 ⟨A, c, rfl, r2, b2⟩
    have R2 := Lib.hid r2
    have H2 := Lib.hid (H1.out.call b2)
    clear r2 b2 H1
    go_wp2_with (first
        | ((with_reducible refine at_store 7 20 ?_); refine tyRg.wpList_store rfl (.tmp 7) (.tmp 20) rfl rfl w2.heap.size ((A, 1, c)) rfl rfl 27 _ (Blk.new w2 27 _) rfl ?_; intro w3 o3 b3
           have S0 := Lib.hid (show RgS w w.heap.size k w2.heap.size (lastN 8 [k]) A c w3 from ⟨(H2.out.put o3 b3).below, (H2.out.put o3 b3).at (x := (w.heap.size, 24, (encK k).toArray)) (by simp), b3, by have := ((R2.out.below ((Below.refl _ _).alloc (Nat.le_refl _) _)).below (o3.below (B := w2.heap.size) (by simp))).more (show w2.heap.size ≤ w3.heap.size by rw [o3.size]; simp); exact this, H2.out.below.size⟩)
           clear o3 b3))
    obtain ⟨gr, hgr⟩ : ∃ gr, w2.heap.size = gr := ⟨_, rfl⟩
    rw [hgr] at S0 ⊢
    clear hgr H2 R2 hd
    go_loopw [8] (fun si wr => ∃ (i : Nat) (p : List K32) (rl : List K32) (A : Option Addr) (c : Nat), si = .int .i64 i ∧ i ≤ gp ∧ Hid (rl = lastN 8 p) ∧ Hid (RgS w w.heap.size k gr rl A c wr)) (fun si _ => gp - (intOf si).toNat)
    case atStart => exact ⟨0, [k], _, A, c, rfl, by omega, Lib.hid rfl, S0⟩
    case round =>
      clear S0
      obtain ⟨i, p, rl, A, c, rfl, hi, HR, R0⟩ := hrel
      by_cases hlt : i < gp
      · have hd : decide ((i : Int) < (gp : Int)) = true := by simp; omega
        have hw8 : (i : Int) % 256 = (i : Int) := by omega
        obtain ⟨rl2, hrl2⟩ : ∃ rl2, putR rl (gapK i) = rl2 := ⟨_, rfl⟩
        have HPU := Lib.hid hrl2
        have HLN := Lib.hid (show rl.length ≤ 8 by rw [HR.out, lastN_len]; omega)
        have HR2 := Lib.hid (show rl2 = lastN 8 (p ++ [gapK i]) by rw [← hrl2, HR.out]; exact putR_of _ _)
        clear hrl2
        go_wp2_with (first
          | ((with_reducible refine at_load 7 ?_); refine tyRg.wpList_load rfl (.tmp 7) rfl gr 0 rfl (A, rl.length, c) (RowC.of_blk R0.out.rb) ?_))
        rw [gapK_cells i (by omega)]
        refine (HP.out A c rl (gapK i) _ (by have := HLN.out; omega) R0.out.row).mono ?_
        rintro e w4 ⟨A1, c1, rfl, r1, _, b1⟩
        rw [HPU.out] at r1 ⊢
        have R1 := Lib.hid r1
        have S1 := Lib.hid (R0.out.call b1)
        clear b1 r1 R0
        go_wp2_with (first
          | ((with_reducible refine at_store 7 32 ?_); refine tyRg.wpList_store rfl (.tmp 7) (.tmp 32) rfl rfl gr (A1, rl2.length, c1) rfl rfl 27 _ S1.out.rb rfl ?_; intro w5 o5 b5
             have S2 := Lib.hid (S1.out.turn R1.out o5 b5)
             clear o5 b5))
        go_roundw
        case rel => exact ⟨i + 1, _, rl2, A1, c1, by go_num, by omega, HR2, S2⟩
        case measure => simp [intOf]; omega
      · have hd : decide ((i : Int) < (gp : Int)) = false := by simp; omega
        obtain ⟨rl2, hrl2⟩ : ∃ rl2, putR rl k = rl2 := ⟨_, rfl⟩
        have HPU := Lib.hid hrl2
        have HLN := Lib.hid (show rl.length ≤ 8 by rw [HR.out, lastN_len]; omega)
        have HR2 := Lib.hid (show rl2 = lastN 8 (p ++ k :: []) by rw [← hrl2, HR.out]; exact putR_of _ _)
        clear hrl2
        go_wp2_with (first
          | ((with_reducible refine at_load 7 ?_); refine tyRg.wpList_load rfl (.tmp 7) rfl gr 0 rfl (A, rl.length, c) (RowC.of_blk R0.out.rb) ?_)
          | ((with_reducible refine at_load 3 ?_); refine tyKc.wpList_load rfl (.tmp 3) rfl w.heap.size 0 rfl k (RowC.of_blk R0.out.kb) ?_))
        refine (HP.out A c rl k _ (by have := HLN.out; omega) R0.out.row).mono ?_
        rintro e w4 ⟨A1, c1, rfl, r1, _, b1⟩
        rw [HPU.out] at r1 ⊢
        have R1 := Lib.hid r1
        have S1 := Lib.hid (R0.out.call b1)
        clear b1 r1 R0 HPU HLN HR
        go_wp2_with (first
          | ((with_reducible refine at_store 7 35 ?_); refine tyRg.wpList_store rfl (.tmp 7) (.tmp 35) rfl rfl gr (A1, rl2.length, c1) rfl rfl 27 _ S1.out.rb rfl ?_; intro w5 o5 b5
             have S2 := Lib.hid (S1.out.turn R1.out o5 b5)
             clear o5 b5))
        clear S1 R1 hm1 hm2 hm3 hd hlt
        obtain ⟨wo, rfl⟩ : ∃ q, q = wr := ⟨_, rfl⟩
        go_loopw [9, 10] (fun sn si wr => ∃ (j n : Nat) (p ks : List K32) (rl : List K32) (A : Option Addr) (c : Nat), si = .int .i64 j ∧ sn = .int .i64 n ∧ j ≤ l.length ∧ n ≤ j ∧ Hid (rl = lastN 8 (p ++ k :: ks) ∧ k ∉ ks ∧ n = ks.length) ∧ Hid (RgS w w.heap.size k gr rl A c wr)) (fun _ i _ => l.length - (intOf i).toNat)
        case atStart => exact ⟨0, 0, p, [], rl2, A1, c1, rfl, rfl, by omega, by omega, Lib.hid ⟨HR2.out, by simp, rfl⟩, S2⟩
        case round =>
          clear S2 HR2
          obtain ⟨j, n, p, ks, rl, A, c, rfl, rfl, hj, hnj, HR, R0⟩ := hrel
          have HLN := Lib.hid (show rl.length ≤ 8 by rw [HR.out.1, lastN_len]; omega)
          obtain ⟨r, hr⟩ : ∃ r, decide ((n : Int) < 4) = r := ⟨_, rfl⟩
          have HHV := Lib.hid (show hasR rl k = r by
            rw [HR.out.1, hasR_of, ← hr]
            exact decide_eq_decide.mpr ((mem_last p ks k HR.out.2.1).trans (by rw [← HR.out.2.2]; omega)))
          by_cases hlt : j < l.length
          · have hd : decide ((j : Int) < (l.length : Int)) = true := by simp; omega
            obtain ⟨g, o, hA, hg, hc⟩ := HL.out.at encK_len hlt
            obtain ⟨x, hx⟩ : ∃ x, l[j]'hlt = x := ⟨_, rfl⟩
            rw [hx] at hc
            subst hA
            have HG := Lib.hid hg
            have XA := Lib.hid (show ∀ W, Below w.heap.size w W → RowC W g (o + j * 32) (encK x) from fun W hb => hc.below hb hg)
            have hi0 : (0 : Int) ≤ (j : Int) := by omega
            have hi1 : (j : Int) < (l.length : Int) := by omega
            have HJ := Lib.hid (show j + 1 ≤ l.length ∧ n + 1 ≤ j + 1 ∧ 0 ≤ j + 1 from ⟨by omega, by omega, by omega⟩)
            obtain ⟨q, hq⟩ : ∃ q, decide (x = k) = q := ⟨_, rfl⟩
            have HE := Lib.hid hq
            obtain ⟨rl2, hrl2⟩ : ∃ rl2, putR rl x = rl2 := ⟨_, rfl⟩
            have HPU := Lib.hid hrl2
            have HR2 := Lib.hid (show rl2 = lastN 8 ((p ++ k :: ks) ++ [x]) by rw [← hrl2, HR.out.1]; exact putR_of _ _)
            clear hx hc hg hq hrl2
            go_wp2_with (first
              | ((with_reducible refine at_load 7 ?_); refine tyRg.wpList_load rfl (.tmp 7) rfl gr 0 rfl (A, rl.length, c) (RowC.of_blk R0.out.rb) ?_)
              | ((with_reducible refine at_load 3 ?_); refine tyKc.wpList_load rfl (.tmp 3) rfl w.heap.size 0 rfl k (RowC.of_blk R0.out.kb) ?_))
            refine (HH.out A c rl k _ (by have := HLN.out; omega) R0.out.row).mono ?_
            rintro e w9 ⟨rfl, b9⟩
            rw [HHV.out]
            have R9 := Lib.hid (R0.out.call b9)
            have HX := Lib.hid (XA.out _ R9.out.below)
            clear b9 R0
            cases r
            all_goals
              go_wp2_with fail
              have AS := Lib.hid R9.out.drew
              have XD := Lib.hid (show RowC w9.drew g (o + j * 32) (encK x) from HX.out)
              refine wp_region_held_drew (S := fun W => RowC W g (o + j * 32) (encK x)) (by kernel_rfl) XD.out ?_
              intro hS
              refine wpAnyH_take (i := 1) (v := .slice (some ⟨g, o, none⟩) l.length c0) rfl (by kernel_rfl) (by kernel_rfl) (by kernel_rfl) (fun _ _ _ h => h) (Or.inl ⟨by rfl, fun W _ => by go_simp; try with_reducible rfl⟩) hS ?_
              simp only [Act.put, List.getElem_toArray, List.getElem_cons_zero, List.getElem_cons_succ, List.setIfInBounds_toArray, List.set_cons_succ, List.set_cons_zero]
              refine wpAnyH_take (i := 2) (v := .int .i64 j) rfl (by kernel_rfl) (by kernel_rfl) (by kernel_rfl) (fun _ _ _ h => h) (Or.inl ⟨by rfl, fun W _ => by go_simp; try with_reducible rfl⟩) hS ?_
              simp only [Act.put, List.getElem_toArray, List.getElem_cons_zero, List.getElem_cons_succ, List.setIfInBounds_toArray, List.set_cons_succ, List.set_cons_zero]
              refine wpAnyH_take (i := 3) (v := .pointer (some ⟨g, o + j * 32, none⟩)) rfl (by kernel_rfl) (by kernel_rfl) (by kernel_rfl) (fun _ _ _ h => h) (Or.inl ⟨by rfl, fun W _ => by go_simp; try with_reducible rfl⟩) hS ?_
              simp only [Act.put, List.getElem_toArray, List.getElem_cons_zero, List.getElem_cons_succ, List.setIfInBounds_toArray, List.set_cons_succ, List.set_cons_zero]
              refine wpAnyH_take (i := 4) (v := .agg (encK x).toArray) rfl (by kernel_rfl) (by kernel_rfl) (by kernel_rfl) (fun _ _ _ h => h) (tyKc.yieldsIf_load (by rfl) (.tmp 53) rfl (g) (o + j * 32) rfl (x) (fun _ h => h)) hS ?_
              simp only [Act.put, List.getElem_toArray, List.getElem_cons_zero, List.getElem_cons_succ, List.setIfInBounds_toArray, List.set_cons_succ, List.set_cons_zero]
              refine wpAnyH_ready (rs := [0]) (by kernel_rfl) (by simp) ?_
              refine AllReadyH.cons rfl (fun Kq hK => ?_) AllReadyH.nil
              refine tyRg.step_load (by rfl) (.tmp 7) rfl gr 0 rfl (A, rl.length, c) (RowC.of_blk AS.out.rb) ?_
              refine hK.out _ _ hS (fun hS => ?_)
              clear hK Kq
              simp only [Act.put, List.getElem_toArray, List.getElem_cons_zero, List.setIfInBounds_toArray, List.set_cons_succ, List.set_cons_zero]
              refine wpAnyH_ready (rs := [5]) (by kernel_rfl) (by simp) ?_
              refine AllReadyH.cons rfl (fun Kq hK => ?_) AllReadyH.nil
              go_simp
              refine (HP.out A c rl x _ (by have := HLN.out; omega) AS.out.row).mono ?_
              rintro e x1 ⟨A1, c1, rfl, r1, f1, b1⟩
              rw [HPU.out] at r1 ⊢
              have R1 := Lib.hid r1
              have F1 := Lib.hid (And.intro f1 AS.out.below.size)
              have S1 := Lib.hid (AS.out.call b1)
              have X1 := Lib.hid (XD.out.below b1 (Nat.lt_of_lt_of_le HG.out AS.out.below.size))
              refine hK.out _ _ X1.out (fun hS => ?_)
              clear hK Kq b1 r1 f1 AS XD
              refine wpAnyH_ready (rs := [6]) (by kernel_rfl) (by simp) ?_
              refine AllReadyH.cons rfl (fun Kq hK => ?_) AllReadyH.nil
              refine tyRg.step_store rfl (.tmp 7) (.tmp 55) rfl rfl gr (A1, rl2.length, c1) rfl rfl 27 _ S1.out.rb rfl ?_
              intro w4 o4 b4
              have R10 := Lib.hid (S1.out.turn R1.out o4 b4)

              refine hK.out _ _ (arowC_only X1.out o4 (by have := HG.out; have := S1.out.hgr; simp; omega)) (fun _ => ?_)
              clear hK Kq hS o4 b4 S1 X1 R1
              refine wpAnyH_done (by kernel_rfl) ?_ _
              have RX := Lib.hid (show ∀ W, From w4 W → RowC W g (o + j * 32) (encK x) from fun W hC => XA.out _ (R10.out.below.trans (hC.below.mono R10.out.below.size)))
              have RK := Lib.hid (show ∀ W, From w4 W → RowC W w.heap.size 0 (encK k) from fun W hC => RowC.of_blk (below_blk hC.below R10.out.kb R10.out.kb.lt))
              go_wp2_with fail
              refine wp_region_from (by kernel_rfl) (by kernel_rfl) ?_
              repeat (first
                | go_big_quiet_skip
                | ((with_reducible refine at_qload 60 ?_); refine tyKy.wpQuiet_load (by rfl) (.tmp 60) rfl g (o + j * 32) rfl x RX.out ?_; simp only [Act.put, List.setIfInBounds_toArray, List.set_cons_succ, List.set_cons_zero])
                | ((with_reducible refine at_qload 3 ?_); refine tyKy.wpQuiet_load (by rfl) (.tmp 3) rfl (w.heap.size) 0 rfl k RK.out ?_; simp only [Act.put, List.setIfInBounds_toArray, List.set_cons_succ, List.set_cons_zero])
                | ((with_reducible refine at_qeql 61 62 ?_); refine wpQuiet_eql_row (by rfl) 24 24 (.tmp 61) (.tmp 62) rfl (encK x).toArray (encK k).toArray rfl rfl (by kernel_rfl) q (fun V => (eqKy_run _ _ V).trans (by rw [HE.out])) ?_; simp only [Act.put, List.setIfInBounds_toArray, List.set_cons_succ, List.set_cons_zero])
                | (go_big_quiet_want; go_big_quiet_op; refine ⟨_, fun _ _ => by with_reducible rfl, ?_⟩; go_big_quiet_on)
                | go_big_quiet_step (fail))
              refine wpQuiet_nil ?_
              intro w5 hC
              have R11 := Lib.hid (R10.out.call hC.below)
              clear hC RX RK R10
              cases q with
              | true =>
                have HR3 := Lib.hid (show rl2 = lastN 8 ((p ++ k :: ks) ++ k :: []) ∧ k ∉ ([] : List K32) ∧ 0 = ([] : List K32).length from ⟨by rw [HR2.out, of_decide_eq_true HE.out], by simp, rfl⟩)
                go_wp2_with fail
                go_roundw
                case rel => exact ⟨j + 1, 0, _, [], rl2, A1, c1, by go_num, rfl, HJ.out.1, HJ.out.2.2, HR3, R11⟩
                case measure => simp [intOf]; omega
              | false =>
                have HR3 := Lib.hid (show rl2 = lastN 8 (p ++ k :: (ks ++ [x])) ∧ k ∉ ks ++ [x] ∧ n + 1 = (ks ++ [x]).length from ⟨by rw [HR2.out]; simp, fun hm => by
                  rcases List.mem_append.1 hm with h1 | h1
                  · exact HR.out.2.1 h1
                  · exact (of_decide_eq_false HE.out) (List.mem_singleton.1 h1).symm, by rw [List.length_append, ← HR.out.2.2]; rfl⟩)
                go_wp2_with fail
                go_roundw
                case rel => exact ⟨j + 1, n + 1, p, _, rl2, A1, c1, by go_num, by go_num, HJ.out.1, HJ.out.2.1, HR3, R11⟩
                case measure => simp [intOf]; omega
          · have hd : decide ((j : Int) < (l.length : Int)) = false := by simp; omega
            go_wp2_with (first
              | ((with_reducible refine at_load 7 ?_); refine tyRg.wpList_load rfl (.tmp 7) rfl gr 0 rfl (A, rl.length, c) (RowC.of_blk R0.out.rb) ?_)
              | ((with_reducible refine at_load 3 ?_); refine tyKc.wpList_load rfl (.tmp 3) rfl w.heap.size 0 rfl k (RowC.of_blk R0.out.kb) ?_))
            refine (HH.out A c rl k _ (by have := HLN.out; omega) R0.out.row).mono ?_
            rintro e w5 ⟨rfl, b5⟩
            rw [HHV.out]
            have R11 := Lib.hid (R0.out.call b5)
            clear b5
            go_wp2_with fail
            go_ret
            exact ⟨by simp, R11.out.below⟩
end Go.Proofs.Ytiifamfophbbcaa
