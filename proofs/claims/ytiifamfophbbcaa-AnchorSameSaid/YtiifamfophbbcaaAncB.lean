/- The document's Back, Last, Has of a ring. -/
import Derived.Test.YtiifamfophbbcaaAncR
namespace Go.Proofs.Ytiifamfophbbcaa
open Go.RowKit
set_option maxRecDepth 20000 in
theorem rBack_few (A : Option Addr) (c : Nat) (l : List K32) (w : World) (h2 : l.length < 2) :
    Calls Try.prog 13 #[.agg #[.slice A l.length c]] w fun e w' => e = .returned (.tuple #[.agg #[.slice none 0 0], .int .i64 166]) ∧ Below w.heap.size w w' := by
  have hd : decide ((l.length : Int) < 2) = true := by simp; omega
  have R0 := Lib.hid (show Blk ((w.alloc (.cells #[.slice A l.length c] 28)).alloc (.cells #[.slice none 0 0] 28)) (w.heap.size + 1) 28 #[.slice none 0 0] from blk_new (g := w.heap.size + 1) 28 #[.slice none 0 0] (by simp))
  clear h2
  go_enter Try.func13, Try.ntmps13
  go_wp2_with ((with_reducible refine at_store 2 9 ?_); refine tyRr.wpList_store rfl (.tmp 2) (.tmp 9) rfl rfl (w.heap.size + 1) (none, 0, 0) rfl rfl 28 _ R0.out rfl ?_; intro w7 o7 b7)
  exact bodyPost_ret (results_cell_tmp1 rfl _ _ (w.heap.size + 1) 28 _ (0, 0) _ rfl b7 rRg rfl (by kernel_rfl)) rfl ⟨rfl, (((Below.refl w.heap.size w).alloc (Nat.le_refl _) _).alloc (by simp) _).trans (o7.below (by simp))⟩
set_option maxRecDepth 20000 in
set_option maxHeartbeats 2000000 in
theorem rBack_some (A : Option Addr) (c : Nat) (l : List K32) (w : World) (hn : l.length ≤ 1000) (hl : RowIn encK 32 w w.heap.size A c l) (h2 : 2 ≤ l.length) :
    Calls Try.prog 13 #[.agg #[.slice A l.length c]] w fun e w' => ∃ A' c', e = .returned (.tuple #[.agg #[.slice A' (backR l).length c'], .int .i64 0]) ∧ RowIn encK 32 w' w'.heap.size A' c' (backR l) ∧ Below w.heap.size w w' := by
  have HN := Lib.hid hn
  have hd : decide ((l.length : Int) < 2) = false := by simp; omega
  obtain ⟨t, ht⟩ : ∃ t, l.take (l.length - 1) = t := ⟨_, rfl⟩
  have HT := Lib.hid (show backR l = t by unfold backR; rw [if_neg (by omega), ht])
  have htl : t.length = l.length - 1 := by rw [← ht, List.length_take]; omega
  have hle := hl.le
  have hm2 : (l.length : Int) - 1 = (t.length : Int) := by omega
  have hmw : IntKind.i64.wrap (t.length : Int) = (t.length : Int) := by rw [IntKind.wrap_i64]; omega
  have hs : ∀ W, (Instr.slice 22 (.slice A l.length c) none (some (.int .i64 (t.length : Int))) none).run Try.prog W = .ok (.slice A t.length c) W := fun W => tyKy.slice_to W A l.length c t.length (by omega)
  have B0 := Lib.hid (show Below w.heap.size w (((w.alloc (.cells #[.slice A l.length c] 28)).alloc (.cells #[.slice none 0 0] 28)).alloc (.cells #[] 24)) from (((Below.refl w.heap.size w).alloc (Nat.le_refl _) _).alloc (by simp) _).alloc (by simp; omega) _)
  have L0 := Lib.hid (show RowIn encK 32 (((w.alloc (.cells #[.slice A l.length c] 28)).alloc (.cells #[.slice none 0 0] 28)).alloc (.cells #[] 24)) w.heap.size A c t from by rw [← ht]; exact (hl.below B0.out).take encK_len _)
  have R0 := Lib.hid (show Blk (((w.alloc (.cells #[.slice A l.length c] 28)).alloc (.cells #[.slice none 0 0] 28)).alloc (.cells #[] 24)) (w.heap.size + 1) 28 #[.slice none 0 0] from (blk_new (g := w.heap.size + 1) 28 #[.slice none 0 0] (by simp)).alloc _)
  have O0 := Lib.hid (show World.ownsRow (((w.alloc (.cells #[.slice A l.length c] 28)).alloc (.cells #[.slice none 0 0] 28)).alloc (.cells #[] 24)) (w.heap.size + 1 + 1) 24 32 (.slice (some ⟨w.heap.size + 1 + 1, 0, none⟩) 0 0) ([] : List K32).length (cellsOf encK []) from aown_nil (blk_new (g := w.heap.size + 1 + 1) 24 #[] (by simp)) (Nat.le_refl _))
  have HTL := Lib.hid htl
  clear hl hn h2 ht htl hle
  go_enter Try.func13, Try.ntmps13
  go_wp2_with (first
    | ((with_reducible refine at_appendg 19 11 18 ?_); refine tyKy.wpList_appendIn rfl azcK 32 azbK (by omega) (.tmp 11) (.tmp 18) rfl (w.heap.size + 1 + 1) _ ([] : List K32) rfl O0.out _ A c t rfl L0.out (by have := HN.out; have := HTL.out; simp; omega) (by simp) ?_; intro v4 w4 p4 g4
       have BB := Lib.hid (aown_grown O0.out g4 (by simp))
       have R4 := Lib.hid (below_blk BB.out R0.out (by omega))
       have B4 := Lib.hid (B0.out.trans (BB.out.mono (by omega)))
       have p5 := aown_congr p4 (List.nil_append t)
       obtain ⟨A5, c5, rfl, r5⟩ := RowIn.of_own encK_len p5
       have F5 := Lib.hid (fresh_of p5)
       have I5 := Lib.hid r5
       clear p4 g4 p5 r5)
    | ((with_reducible refine at_store 2 21 ?_); refine tyRr.wpList_store rfl (.tmp 2) (.tmp 21) rfl rfl (w.heap.size + 1) (A5, t.length, c5) rfl rfl 28 _ R4.out rfl ?_; intro w7 o7 b7))
  refine bodyPost_ret (results_cell_tmp1 rfl _ _ (w.heap.size + 1) 28 _ (0, 0) _ rfl b7 rRg rfl (by kernel_rfl)) rfl ⟨A5, c5, ?_, ?_, B4.out.trans (o7.below (by simp))⟩
  · rw [HT.out]
    rfl
  · rw [HT.out, o7.size]
    exact arow_only I5.out o7 (fun g o hA => by have h := F5.out _ hA; simp only [List.mem_singleton]; intro e; simp only at h; omega)
theorem rBack_r (A : Option Addr) (c : Nat) (l : List K32) (w : World) (hn : l.length ≤ 1000) (hl : RowIn encK 32 w w.heap.size A c l) :
    Calls Try.prog 13 #[.agg #[.slice A l.length c]] w fun e w' => ∃ A' c', e = .returned (.tuple #[.agg #[.slice A' (backR l).length c'], .int .i64 (backE l)]) ∧ RowIn encK 32 w' w'.heap.size A' c' (backR l) ∧ Below w.heap.size w w' := by
  by_cases h : l.length < 2
  · refine (rBack_few A c l w h).mono ?_
    rintro e w' ⟨rfl, b⟩
    have e1 : backR l = [] := by unfold backR; rw [if_pos h]
    have e2 : backE l = 166 := by unfold backE; rw [if_pos h]
    rw [e1, e2]
    exact ⟨none, 0, rfl, RowIn.nil (Nat.zero_le _), b⟩
  · have e2 : backE l = 0 := by unfold backE; rw [if_neg h]
    rw [e2]
    exact rBack_some A c l w hn hl (by omega)
set_option maxRecDepth 20000 in
theorem rLast_none (A : Option Addr) (c : Nat) (w : World) :
    Calls Try.prog 15 #[.agg #[.slice A 0 c]] w fun e w' => e = .returned (.tuple #[.agg (encK zeroKey).toArray, .bool false]) ∧ Below w.heap.size w w' := by
  go_enter Try.func15, Try.ntmps15
  go_wp2_with (first
    | ((with_reducible refine at_build 8 ?_); refine wpList_built rfl 24 #[] rfl (encK zeroKey).toArray (by kernel_rfl) ?_)
    | ((with_reducible refine at_store 2 8 ?_); refine tyKc.wpList_store rfl (.tmp 2) (.tmp 8) rfl rfl (w.heap.size + 1) zeroKey rfl rfl 24 _ (blk_new (g := w.heap.size + 1) 24 _ (by simp)) rfl ?_; intro w7 o7 b7))
  exact bodyPost_ret (results_cell_tmp1 rfl _ _ (w.heap.size + 1) 24 _ (0, 0) _ rfl b7 Try.underlying24 rfl (by rw [tyKc.arr]; kernel_rfl)) rfl ⟨rfl, (((Below.refl w.heap.size w).alloc (Nat.le_refl _) _).alloc (by simp) _).trans (o7.below (by simp))⟩
set_option maxRecDepth 20000 in
set_option maxHeartbeats 2000000 in
theorem rLast_some (A : Option Addr) (c : Nat) (l : List K32) (w : World) (hl : RowIn encK 32 w w.heap.size A c l) (hn : l.length ≤ 1000) (h0 : 0 < l.length) :
    Calls Try.prog 15 #[.agg #[.slice A l.length c]] w fun e w' => e = .returned (.tuple #[.agg (encK (lastR l)).toArray, .bool true]) ∧ Below w.heap.size w w' := by
  obtain ⟨g, o, hA, hg, hc⟩ := hl.at encK_len (i := l.length - 1) (by omega)
  rw [lastR_get l h0]
  obtain ⟨x, hx⟩ : ∃ x, l[l.length - 1]'(by omega) = x := ⟨l[l.length - 1]'(by omega), rfl⟩
  rw [hx] at hc ⊢
  subst hA
  obtain ⟨m, hm⟩ : ∃ m, l.length - 1 = m := ⟨_, rfl⟩
  rw [hm] at hc
  have hd : ((l.length : Int) == 0) = false := beq_eq_false_iff_ne.mpr (by omega)
  have hm2 : (l.length : Int) - 1 = (m : Int) := by omega
  have hmw : IntKind.i64.wrap (m : Int) = (m : Int) := by rw [IntKind.wrap_i64]; omega
  have hi0 : (0 : Int) ≤ (m : Int) := by omega
  have hi1 : (m : Int) < (l.length : Int) := by omega
  have C0 := Lib.hid (show ∀ cs, RowC ((w.alloc (.cells #[.slice (some ⟨g, o, none⟩) l.length c] 28)).alloc (.cells cs 24)) g (o + m * 32) (encK x) from fun cs => hc.below (((Below.refl w.heap.size w).alloc (Nat.le_refl _) _).alloc (by simp) _) hg)
  clear hl hn h0 hg hc hx hm
  go_enter Try.func15, Try.ntmps15
  go_wp2_with (first
    | ((with_reducible refine at_load 15 ?_); refine tyKc.wpList_load rfl (.tmp 15) rfl g (o + m * 32) rfl x (C0.out _) ?_)
    | ((with_reducible refine at_store 2 16 ?_); refine tyKc.wpList_store rfl (.tmp 2) (.tmp 16) rfl rfl (w.heap.size + 1) x rfl rfl 24 _ (blk_new (g := w.heap.size + 1) 24 _ (by simp)) rfl ?_; intro w7 o7 b7))
  exact bodyPost_ret (results_cell_tmp1 rfl _ _ (w.heap.size + 1) 24 _ (0, 0) _ rfl b7 Try.underlying24 rfl (by rw [tyKc.arr]; kernel_rfl)) rfl ⟨rfl, (((Below.refl w.heap.size w).alloc (Nat.le_refl _) _).alloc (by simp) _).trans (o7.below (by simp))⟩
theorem rLast_r (A : Option Addr) (c : Nat) (l : List K32) (w : World) (hl : RowIn encK 32 w w.heap.size A c l) (hn : l.length ≤ 1000) :
    Calls Try.prog 15 #[.agg #[.slice A l.length c]] w fun e w' => e = .returned (.tuple #[.agg (encK (lastR l)).toArray, .bool (decide (0 < l.length))]) ∧ Below w.heap.size w w' := by
  by_cases h : 0 < l.length
  · rw [decide_eq_true h]
    exact rLast_some A c l w hl hn h
  · obtain rfl : l = [] := List.eq_nil_of_length_eq_zero (by omega)
    exact rLast_none A c w
set_option maxRecDepth 20000 in
set_option maxHeartbeats 2000000 in
theorem rHas_r (A : Option Addr) (c : Nat) (l : List K32) (k : K32) (w : World) (hl : RowIn encK 32 w w.heap.size A c l) (hn : l.length ≤ 1000) :
    Calls Try.prog 18 #[.agg #[.slice A l.length c], .agg (encK k).toArray] w fun e w' => e = .returned (.bool (hasR l k)) ∧ Below w.heap.size w w' := by
  obtain ⟨r, hr⟩ : ∃ r, hasR l k = r := ⟨_, rfl⟩
  rw [hr]
  have HH := Lib.hid hr
  obtain ⟨s, hs⟩ : ∃ s, l.length - 4 = s := ⟨_, rfl⟩
  have HLT := Lib.hid (show lastN 4 l = l.drop s by unfold lastN; rw [hs])
  have hmx : max ((l.length : Int) - 4) 0 = (s : Int) := by omega
  have hmx2 : max (0 : Int) ((l.length : Int) - 4) = (s : Int) := by omega
  have hsw : wrap64 ((l.length : Int) - 4) = (l.length : Int) - 4 := by unfold wrap64; omega
  have HS := Lib.hid (show s ≤ l.length by omega)
  have B0 := Lib.hid (show Below w.heap.size w ((w.alloc (.cells #[.slice A l.length c] 28)).alloc (.cells (encK k).toArray 24)) from ((Below.refl w.heap.size w).alloc (Nat.le_refl _) _).alloc (by simp) _)
  have K0 := Lib.hid (show Blk ((w.alloc (.cells #[.slice A l.length c] 28)).alloc (.cells (encK k).toArray 24)) (w.heap.size + 1) 24 (encK k).toArray from blk_new (g := w.heap.size + 1) 24 (encK k).toArray (by simp))
  have R0 := Lib.hid (show Blk ((w.alloc (.cells #[.slice A l.length c] 28)).alloc (.cells (encK k).toArray 24)) w.heap.size 28 #[.slice A l.length c] from (Blk.new w 28 #[.slice A l.length c]).alloc _)
  have HL := Lib.hid hl
  clear hl hr hs
  go_enter Try.func18, Try.ntmps18
  go_wp2_with fail
  clear hmx hmx2 hsw
  go_loopw [5] (fun i wr => ∃ j : Nat, i = .int .i64 j ∧ s ≤ j ∧ j ≤ l.length ∧ Hid (∀ q (h : q < l.length), s ≤ q → q < j → l[q] ≠ k) ∧ Hid (Below w.heap.size w wr ∧ Blk wr (w.heap.size + 1) 24 (encK k).toArray ∧ Blk wr w.heap.size 28 #[.slice A l.length c])) (fun i _ => l.length - (intOf i).toNat)
  case atStart => exact ⟨s, rfl, Nat.le_refl _, HS.out, Lib.hid (fun q h h1 h2 => absurd h2 (by omega)), Lib.hid ⟨B0.out, K0.out, R0.out⟩⟩
  case round =>
    clear B0 K0 R0
    obtain ⟨j, rfl, hsj, hj, HQ, HB⟩ := hrel
    have c1 : wr.cell? ⟨w.heap.size, 0, none⟩ = some (.slice A l.length c) := HB.out.2.2.cell 0
    by_cases hlt : j < l.length
    · have hd : decide ((j : Int) < (l.length : Int)) = true := by simp; omega
      obtain ⟨g, o, hA, hg, hc⟩ := (HL.out.below HB.out.1).at encK_len hlt
      obtain ⟨x, hx⟩ : ∃ x, l[j]'hlt = x := ⟨_, rfl⟩
      rw [hx] at hc
      have HX := Lib.hid hx
      subst hA
      have hi0 : (0 : Int) ≤ (j : Int) := by omega
      have hi1 : (j : Int) < (l.length : Int) := by omega
      have RA := Lib.hid (show ∀ W, From wr W → W.cell? ⟨w.heap.size, 0, none⟩ = some (.slice (some ⟨g, o, none⟩) l.length c) from fun W hC => (below_blk hC.below HB.out.2.2 HB.out.2.2.lt).cell 0)
      have RX := Lib.hid (show ∀ W, From wr W → RowC W g (o + j * 32) (encK x) from fun W hC => hc.below hC.below (Nat.lt_of_lt_of_le hg HB.out.1.size))
      have RK := Lib.hid (show ∀ W, From wr W → RowC W (w.heap.size + 1) 0 (encK k) from fun W hC => RowC.of_blk (below_blk hC.below HB.out.2.1 HB.out.2.1.lt))
      obtain ⟨q, hq⟩ : ∃ q, decide (x = k) = q := ⟨_, rfl⟩
      have HE := Lib.hid hq
      have HJ := Lib.hid (show s ≤ j + 1 ∧ j + 1 ≤ l.length from ⟨by omega, by omega⟩)
      clear hx hc hg hq
      go_wp2_with fail
      refine wp_region_from (by kernel_rfl) (by kernel_rfl) ?_
      repeat (first
        | go_big_quiet_skip
        | ((with_reducible refine at_qload 18 ?_); refine wpQuiet_load_one (by rfl) 22 (.tmp 18) rfl ⟨w.heap.size, 0, none⟩ rfl _ Try.isAgg22 RA.out ?_; simp only [Act.put, List.setIfInBounds_toArray, List.set_cons_succ, List.set_cons_zero])
        | ((with_reducible refine at_qload 21 ?_); refine tyKy.wpQuiet_load (by rfl) (.tmp 21) rfl g (o + j * 32) rfl x RX.out ?_; simp only [Act.put, List.setIfInBounds_toArray, List.set_cons_succ, List.set_cons_zero])
        | ((with_reducible refine at_qload 3 ?_); refine tyKy.wpQuiet_load (by rfl) (.tmp 3) rfl (w.heap.size + 1) 0 rfl k RK.out ?_; simp only [Act.put, List.setIfInBounds_toArray, List.set_cons_succ, List.set_cons_zero])
        | ((with_reducible refine at_qeql 22 23 ?_); refine wpQuiet_eql_row (by rfl) 24 24 (.tmp 22) (.tmp 23) rfl (encK x).toArray (encK k).toArray rfl rfl (by kernel_rfl) q (fun V => (eqKy_run _ _ V).trans (by rw [HE.out])) ?_; simp only [Act.put, List.setIfInBounds_toArray, List.set_cons_succ, List.set_cons_zero])
        | (go_big_quiet_want; go_big_quiet_op; refine ⟨_, fun _ _ => by with_reducible rfl, ?_⟩; go_big_quiet_on)
        | go_big_quiet_step (fail))
      refine wpQuiet_nil ?_
      intro w9 hC
      have B9 := Lib.hid (show Below w.heap.size w w9 ∧ Blk w9 (w.heap.size + 1) 24 (encK k).toArray ∧ Blk w9 w.heap.size 28 #[.slice (some ⟨g, o, none⟩) l.length c] from ⟨HB.out.1.trans (hC.below.mono HB.out.1.size), below_blk hC.below HB.out.2.1 HB.out.2.1.lt, below_blk hC.below HB.out.2.2 HB.out.2.2.lt⟩)
      clear hC RA RX RK c1
      cases q with
      | true =>
        have HT := Lib.hid (show r = true by
          rw [← HH.out]
          refine decide_eq_true ?_
          rw [HLT.out, List.mem_iff_getElem]
          refine ⟨j - s, by rw [List.length_drop]; omega, ?_⟩
          rw [List.getElem_drop]
          have e1 : l[s + (j - s)]'(by omega) = l[j] := by congr 1; omega
          rw [e1, HX.out]
          exact of_decide_eq_true HE.out)
        go_wp2_with fail
        go_ret
        exact ⟨by rw [HT.out]; rfl, B9.out.1⟩
      | false =>
        have HQ2 := Lib.hid (show ∀ q (h : q < l.length), s ≤ q → q < j + 1 → l[q] ≠ k from fun q h h1 h2 => by
          rcases Nat.lt_or_ge q j with e | e
          · exact HQ.out q h h1 e
          · obtain rfl : q = j := Nat.le_antisymm (Nat.le_of_lt_succ h2) e
            rw [HX.out]
            exact of_decide_eq_false HE.out)
        go_wp2_with fail
        go_roundw
        case rel => exact ⟨j + 1, by go_num, HJ.out.1, HJ.out.2, HQ2, B9⟩
        case measure => simp [intOf]; omega
    · have hd : decide ((j : Int) < (l.length : Int)) = false := by simp; omega
      have HF := Lib.hid (show r = false by
        rw [← HH.out]
        refine decide_eq_false ?_
        rw [HLT.out, List.mem_iff_getElem]
        rintro ⟨q, h1, h2⟩
        rw [List.length_drop] at h1
        rw [List.getElem_drop] at h2
        exact HQ.out (s + q) (by omega) (by omega) (by omega) h2)
      go_wp2_with fail
      go_ret
      exact ⟨by rw [HF.out]; rfl, HB.out.1⟩
end Go.Proofs.Ytiifamfophbbcaa
