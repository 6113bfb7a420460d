/- AnchorOld: the statement's walk. Written by genLAo.py. -/
import Derived.Test.YtiifamfophbbcaaAncU
namespace Go.Proofs.Ytiifamfophbbcaa
open Go.RowKit
/-- those of the first j that are others than old -/
def keysOf (old : K32) (l : List K32) (j : Nat) : List K32 := (l.take j).filter (fun x => !decide (x = old))
theorem keysOf_zero (old : K32) (l : List K32) : keysOf old l 0 = [] := rfl
theorem keysOf_skip {old : K32} {l : List K32} {j : Nat} (hj : j < l.length) (h : l[j] = old) : keysOf old l (j + 1) = keysOf old l j := by
  unfold keysOf
  rw [List.take_succ_eq_append_getElem hj, List.filter_append]
  simp [h]
theorem keysOf_put {old : K32} {l : List K32} {j : Nat} (hj : j < l.length) (h : l[j] ≠ old) : keysOf old l (j + 1) = keysOf old l j ++ [l[j]] := by
  unfold keysOf
  rw [List.take_succ_eq_append_getElem hj, List.filter_append]
  simp [h]
theorem keysOf_not (old : K32) (l : List K32) (j : Nat) : old ∉ keysOf old l j := by
  unfold keysOf
  simp
theorem keysOf_len (old : K32) (l : List K32) (j : Nat) : (keysOf old l j).length ≤ j := Nat.le_trans (List.length_filter_le _ _) (by rw [List.length_take]; omega)
theorem has_keysOf (old : K32) (l : List K32) (j : Nat) : hasR (lastN 8 (old :: keysOf old l j)) old = decide ((keysOf old l j).length < 4) := by
  rw [hasR_of]
  exact decide_eq_decide.mpr (mem_last [] (keysOf old l j) old (keysOf_not old l j))
set_option maxRecDepth 20000 in
set_option maxHeartbeats 4000000 in
theorem aold_walk (HNW : NewOk) (HPT : PutOk) (HHS : HasOk) (k : K32) (A0 : Option Addr) (c0 : Nat) (l : List K32) (w : World) (hl : RowIn encK 32 w w.heap.size A0 c0 l) :
    Calls Try.prog 6 #[.agg (encK k).toArray, .slice A0 l.length c0] w fun e w' => e = .returned (.bool true) ∧ Below w.heap.size w w' := by
  have SH := Lib.hid (fun W => ashown_any HNW HPT HHS W)
  unfold NewOk at HNW
  unfold PutOk at HPT
  unfold HasOk at HHS
  have HN := Lib.hid HNW
  have HP := Lib.hid HPT
  have HH := Lib.hid HHS
  have HL := Lib.hid hl
  clear HNW HPT HHS
  by_cases h100 : 100 < l.length
  · have hd : decide ((100 : Int) < (l.length : Int)) = true := by simp; omega
    have H0 := Lib.hid ((Holds.nil w).box 24 (encK k).toArray)
    clear hl
    go_enter Try.func6, Try.ntmps6
    go_wp2_with fail
    refine (SH.out _).mono ?_
    rintro e w1 ⟨rfl, b1⟩
    have H1 := Lib.hid (H0.out.call b1)
    go_wp2_with fail
    go_ret
    exact ⟨rfl, H1.out.below⟩
  · have hd : decide ((100 : Int) < (l.length : Int)) = false := by simp; omega
    have H100 := Lib.hid (show l.length ≤ 100 by omega)
    have hn100 : l.length ≤ 100 := by omega
    have H0 := Lib.hid ((Holds.nil w).box 24 (encK k).toArray)
    clear hl
    go_enter Try.func6, Try.ntmps6
    go_wp2_with fail
    refine (SH.out _).mono ?_
    rintro e w1 ⟨rfl, b1⟩
    have H1 := Lib.hid (H0.out.call b1)
    clear b1 H0
    go_wp2_with ((with_reducible refine at_load 2 ?_); refine tyKc.wpList_load rfl (.tmp 2) rfl (w.heap.size) 0 rfl (k) (RowC.of_blk (H1.out.at (x := (w.heap.size, 24, (encK k).toArray)) (by simp))) ?_)
    refine (HN.out k _).mono ?_
    rintro e w2 ⟨A, c, rfl, r2, b2⟩
    have R2 := Lib.hid r2
    have H2 := Lib.hid (H1.out.call b2)
    clear r2 b2 H1
    go_wp2_with (first
        | ((with_reducible refine at_store 5 17 ?_); refine tyRg.wpList_store rfl (.tmp 5) (.tmp 17) rfl rfl w2.heap.size ((A, 1, c)) rfl rfl 27 _ (Blk.new w2 27 _) rfl ?_; intro w3 o3 b3
           have S0 := Lib.hid (show RgS w w.heap.size k w2.heap.size (lastN 8 (k :: keysOf k l 0)) A c w3 from ⟨(H2.out.put o3 b3).below, (H2.out.put o3 b3).at (x := (w.heap.size, 24, (encK k).toArray)) (by simp), b3, by have := ((R2.out.below ((Below.refl _ _).alloc (Nat.le_refl _) _)).below (o3.below (B := w2.heap.size) (by simp))).more (show w2.heap.size ≤ w3.heap.size by rw [o3.size]; simp); exact this, H2.out.below.size⟩)
           clear o3 b3))
    obtain ⟨gr, hgr⟩ : ∃ gr, w2.heap.size = gr := ⟨_, rfl⟩
    rw [hgr] at S0 ⊢
    clear hgr H2 R2 hd
    go_loopw [6, 7] (fun sn si wr => ∃ (j n : Nat) (rl : List K32) (A : Option Addr) (c : Nat), si = .int .i64 j ∧ sn = .int .i64 n ∧ j ≤ l.length ∧ n ≤ j ∧ Hid (rl = lastN 8 (k :: keysOf k l j) ∧ n = (keysOf k l j).length) ∧ Hid (RgS w w.heap.size k gr rl A c wr)) (fun _ i _ => l.length - (intOf i).toNat)
    case atStart => exact ⟨0, 0, _, A, c, rfl, rfl, by omega, by omega, Lib.hid ⟨rfl, rfl⟩, S0⟩
    case round =>
      clear S0
      obtain ⟨j, n, rl, A, c, rfl, rfl, hj, hnj, HR, R0⟩ := hrel
      by_cases hlt : j < l.length
      · have hd : decide ((j : Int) < (l.length : Int)) = true := by simp; omega
        obtain ⟨g, o, hA, hg, hc⟩ := (HL.out.below R0.out.below).at encK_len hlt
        obtain ⟨x, hx⟩ : ∃ x, l[j]'hlt = x := ⟨_, rfl⟩
        rw [hx] at hc
        subst hA
        have HX0 := Lib.hid hx
        have HG := Lib.hid hg
        have HXr := Lib.hid hc
        have hi0 : (0 : Int) ≤ (j : Int) := by omega
        have hi1 : (j : Int) < (l.length : Int) := by omega
        have HJ := Lib.hid (show j + 1 ≤ l.length ∧ n + 1 ≤ j + 1 ∧ n ≤ j + 1 from ⟨by omega, by omega, by omega⟩)
        have RX := Lib.hid (show ∀ W, From wr W → RowC W g (o + j * 32) (encK x) from fun W hC => HXr.out.below hC.below (Nat.lt_of_lt_of_le HG.out R0.out.below.size))
        have RK := Lib.hid (show ∀ W, From wr W → RowC W w.heap.size 0 (encK k) from fun W hC => RowC.of_blk (below_blk hC.below R0.out.kb R0.out.kb.lt))
        obtain ⟨q, hq⟩ : ∃ q, decide (x = k) = q := ⟨_, rfl⟩
        have HE := Lib.hid hq
        clear hx hc hg hq
        go_wp2_with fail
        refine wp_region_from (by kernel_rfl) (by kernel_rfl) ?_
        repeat (first
          | go_big_quiet_skip
          | ((with_reducible refine at_qload 26 ?_); refine tyKy.wpQuiet_load (by rfl) (.tmp 26) rfl g (o + j * 32) rfl x RX.out ?_; simp only [Act.put, List.setIfInBounds_toArray, List.set_cons_succ, List.set_cons_zero])
          | ((with_reducible refine at_qload 2 ?_); refine tyKy.wpQuiet_load (by rfl) (.tmp 2) rfl (w.heap.size) 0 rfl k RK.out ?_; simp only [Act.put, List.setIfInBounds_toArray, List.set_cons_succ, List.set_cons_zero])
          | ((with_reducible refine at_qeql 27 28 ?_); refine wpQuiet_eql_row (by rfl) 24 24 (.tmp 27) (.tmp 28) rfl (encK x).toArray (encK k).toArray rfl rfl (by kernel_rfl) q (fun V => (eqKy_run _ _ V).trans (by rw [HE.out])) ?_; simp only [Act.put, List.setIfInBounds_toArray, List.set_cons_succ, List.set_cons_zero])
          | (go_big_quiet_want; go_big_quiet_op; refine ⟨_, fun _ _ => by with_reducible rfl, ?_⟩; go_big_quiet_on)
          | go_big_quiet_step (fail))
        refine wpQuiet_nil ?_
        intro w9 hC
        have R9 := Lib.hid (R0.out.call hC.below)
        have HX := Lib.hid (show RowC w9 g (o + j * 32) (encK x) from HXr.out.below hC.below (Nat.lt_of_lt_of_le HG.out R0.out.below.size))
        clear hC RX RK HXr R0
        cases q with
        | true =>
          have hxe : l[j] = k := by rw [HX0.out]; exact of_decide_eq_true HE.out
          have HR2 := Lib.hid (show rl = lastN 8 (k :: keysOf k l (j + 1)) ∧ n = (keysOf k l (j + 1)).length by rw [keysOf_skip hlt hxe]; exact HR.out)
          clear hxe HX
          go_wp2_with fail
          go_roundw
          case rel => exact ⟨j + 1, n, rl, A, c, by go_num, rfl, HJ.out.1, HJ.out.2.2, HR2, R9⟩
          case measure => simp [intOf]; omega
        | false =>
          have hxe : l[j] ≠ k := by rw [HX0.out]; exact of_decide_eq_false HE.out
          obtain ⟨rl2, hrl2⟩ : ∃ rl2, putR rl x = rl2 := ⟨_, rfl⟩
          have HPU := Lib.hid hrl2
          have HLN := Lib.hid (show rl.length ≤ 8 by rw [HR.out.1, lastN_len]; omega)
          have HR2 := Lib.hid (show rl2 = lastN 8 (k :: keysOf k l (j + 1)) ∧ n + 1 = (keysOf k l (j + 1)).length by
            rw [keysOf_put hlt hxe, HX0.out, ← hrl2, HR.out.1]
            refine ⟨putR_of _ x, ?_⟩
            rw [List.length_append, ← HR.out.2]
            rfl)
          have HLN2 := Lib.hid (show rl2.length ≤ 8 by rw [HR2.out.1, lastN_len]; omega)
          obtain ⟨r, hr⟩ : ∃ r, decide ((n : Int) + 1 < 4) = r := ⟨_, rfl⟩
          have HHV := Lib.hid (show hasR rl2 k = r by
            rw [HR2.out.1, has_keysOf, ← HR2.out.2, ← hr, decide_eq_decide]
            omega)
          clear hxe hrl2
          obtain ⟨wq, hwq⟩ : ∃ wq, w9 = wq := ⟨_, rfl⟩
          go_wp2_with fail
          clear hwq
          have AS := Lib.hid R9.out.drew
          have XD := Lib.hid (show RowC w9.drew g (o + j * 32) (encK x) from HX.out)
          refine wp_region_held_drew (S := fun W => RowC W g (o + j * 32) (encK x)) (by kernel_rfl) XD.out ?_
          intro hS
          refine wpAnyH_take (i := 1) (v := .slice (some ⟨g, o, none⟩) l.length c0) rfl (by kernel_rfl) (by kernel_rfl) (by kernel_rfl) (fun _ _ _ h => h) (Or.inl ⟨by rfl, fun W _ => by go_simp; try with_reducible rfl⟩) hS ?_
          simp only [Act.put, List.getElem_toArray, List.getElem_cons_zero, List.getElem_cons_succ, List.setIfInBounds_toArray, List.set_cons_succ, List.set_cons_zero]
          refine wpAnyH_take (i := 2) (v := .int .i64 j) rfl (by kernel_rfl) (by kernel_rfl) (by kernel_rfl) (fun _ _ _ h => h) (Or.inl ⟨by rfl, fun W _ => by go_simp; try with_reducible rfl⟩) hS ?_
          simp only [Act.put, List.getElem_toArray, List.getElem_cons_zero, List.getElem_cons_succ, List.setIfInBounds_toArray, List.set_cons_succ, List.set_cons_zero]
          refine wpAnyH_take (i := 3) (v := .pointer (some ⟨g, o + j * 32, none⟩)) rfl (by kernel_rfl) (by kernel_rfl) (by kernel_rfl) (fun _ _ _ h => h) (Or.inl ⟨by rfl, fun W _ => by go_simp; try with_reducible rfl⟩) hS ?_
          simp only [Act.put, List.getElem_toArray, List.getElem_cons_zero, List.getElem_cons_succ, List.setIfInBounds_toArray, List.set_cons_succ, List.set_cons_zero]
          refine wpAnyH_take (i := 4) (v := .agg (encK x).toArray) rfl (by kernel_rfl) (by kernel_rfl) (by kernel_rfl) (fun _ _ _ h => h) (tyKc.yieldsIf_load (by rfl) (.tmp 33) rfl (g) (o + j * 32) rfl (x) (fun _ h => h)) hS ?_
          simp only [Act.put, List.getElem_toArray, List.getElem_cons_zero, List.getElem_cons_succ, List.setIfInBounds_toArray, List.set_cons_succ, List.set_cons_zero]
          refine wpAnyH_ready (rs := [0]) (by kernel_rfl) (by simp) ?_
          refine AllReadyH.cons rfl (fun Kq hK => ?_) AllReadyH.nil
          refine tyRg.step_load (by rfl) (.tmp 5) rfl gr 0 rfl (A, rl.length, c) (RowC.of_blk AS.out.rb) ?_
          refine hK.out _ _ hS (fun hS => ?_)
          clear hK Kq
          simp only [Act.put, List.getElem_toArray, List.getElem_cons_zero, List.setIfInBounds_toArray, List.set_cons_succ, List.set_cons_zero]
          refine wpAnyH_ready (rs := [5]) (by kernel_rfl) (by simp) ?_
          refine AllReadyH.cons rfl (fun Kq hK => ?_) AllReadyH.nil
          go_simp
          refine (HP.out A c rl x _ (by have := HLN.out; omega) AS.out.row).mono ?_
          rintro e x1 ⟨A1, c1, rfl, r1, f1, b1⟩
          rw [HPU.out] at r1 ⊢
          have R1 := Lib.hid r1
          have F1 := Lib.hid (And.intro f1 AS.out.below.size)
          have S1 := Lib.hid (AS.out.call b1)
          have X1 := Lib.hid (XD.out.below b1 (Nat.lt_of_lt_of_le HG.out AS.out.below.size))
          refine hK.out _ _ X1.out (fun hS => ?_)
          clear hK Kq b1 r1 f1 AS XD
          refine wpAnyH_ready (rs := [6]) (by kernel_rfl) (by simp) ?_
          refine AllReadyH.cons rfl (fun Kq hK => ?_) AllReadyH.nil
          refine tyRg.step_store rfl (.tmp 5) (.tmp 35) rfl rfl gr (A1, rl2.length, c1) rfl rfl 27 _ S1.out.rb rfl ?_
          intro w4 o4 b4
          have R10 := Lib.hid (S1.out.turn R1.out o4 b4)

          refine hK.out _ _ (arowC_only X1.out o4 (by have := HG.out; have := S1.out.hgr; simp; omega)) (fun _ => ?_)
          clear hK Kq hS o4 b4 S1 X1 R1
          refine wpAnyH_done (by kernel_rfl) ?_ _
          go_wp2_with (first
            | ((with_reducible refine at_load 5 ?_); refine tyRg.wpList_load rfl (.tmp 5) rfl gr 0 rfl (A1, rl2.length, c1) (RowC.of_blk R10.out.rb) ?_)
            | ((with_reducible refine at_load 2 ?_); refine tyKc.wpList_load rfl (.tmp 2) rfl w.heap.size 0 rfl k (RowC.of_blk R10.out.kb) ?_))
          refine (HH.out A1 c1 rl2 k _ (by have := HLN2.out; omega) R10.out.row).mono ?_
          rintro e w5 ⟨rfl, b5⟩
          rw [HHV.out]
          have R11 := Lib.hid (R10.out.call b5)
          clear b5 R10
          go_wp2_with fail
          go_roundw
          case rel => exact ⟨j + 1, n + 1, rl2, A1, c1, by go_num, by go_num, HJ.out.1, HJ.out.2.1, HR2, R11⟩
          case measure => simp [intOf]; omega
      · have hd : decide ((j : Int) < (l.length : Int)) = false := by simp; omega
        have HLN := Lib.hid (show rl.length ≤ 8 by rw [HR.out.1, lastN_len]; omega)
        obtain ⟨r, hr⟩ : ∃ r, decide ((n : Int) < 4) = r := ⟨_, rfl⟩
        have HHV := Lib.hid (show hasR rl k = r by
          rw [HR.out.1, has_keysOf, ← HR.out.2, ← hr, decide_eq_decide]
          omega)
        go_wp2_with (first
          | ((with_reducible refine at_load 5 ?_); refine tyRg.wpList_load rfl (.tmp 5) rfl gr 0 rfl (A, rl.length, c) (RowC.of_blk R0.out.rb) ?_)
          | ((with_reducible refine at_load 2 ?_); refine tyKc.wpList_load rfl (.tmp 2) rfl w.heap.size 0 rfl k (RowC.of_blk R0.out.kb) ?_))
        refine (HH.out A c rl k _ (by have := HLN.out; omega) R0.out.row).mono ?_
        rintro e w5 ⟨rfl, b5⟩
        rw [HHV.out]
        have R11 := Lib.hid (R0.out.call b5)
        clear b5
        go_wp2_with fail
        go_ret
        exact ⟨by simp, R11.out.below⟩
end Go.Proofs.Ytiifamfophbbcaa
