/- The project's Back, Last and Has of a ring. -/
import Derived.Test.YtiifamfophbbcaaAnpB
import Derived.Test.YtiifamfophbbcaaKeyC
import Derived.Test.YtiifamfophbbcaaKeyS
namespace Go.Proofs.Ytiifamfophbbcaa
open Go.RowKit
set_option maxRecDepth 20000 in
theorem pBack_few (A : Option Addr) (c : Nat) (l : List K32) (w : World) (h2 : l.length < 2) :
    Calls Try.prog 12 #[.agg #[.slice A l.length c]] w fun e w' => e = .returned (.tuple #[.agg #[.slice none 0 0], .int .i64 166]) ∧ Below w.heap.size w w' := by
  have hd : decide ((l.length : Int) < 2) = true := by simp; omega
  have R0 := Lib.hid (show Blk ((w.alloc (.cells #[.slice A l.length c] 27)).alloc (.cells #[.slice none 0 0] 27)) (w.heap.size + 1) 27 #[.slice none 0 0] from blk_new (g := w.heap.size + 1) 27 #[.slice none 0 0] (by simp))
  clear h2
  go_enter Try.func12, Try.ntmps12
  go_wp2_with ((with_reducible refine at_store 2 8 ?_); refine tyRg.wpList_store rfl (.tmp 2) (.tmp 8) rfl rfl (w.heap.size + 1) (none, 0, 0) rfl rfl 27 _ R0.out rfl ?_; intro w7 o7 b7)
  exact bodyPost_ret (results_cell_tmp1 rfl _ _ (w.heap.size + 1) 27 _ (0, 0) _ rfl b7 rRp rfl (by kernel_rfl)) rfl ⟨rfl, (((Below.refl w.heap.size w).alloc (Nat.le_refl _) _).alloc (by simp) _).trans (o7.below (by simp))⟩
set_option maxRecDepth 20000 in
set_option maxHeartbeats 2000000 in
theorem pBack_some (A : Option Addr) (c : Nat) (l : List K32) (w : World) (hn : l.length ≤ 200) (hl : RowIn encK 32 w w.heap.size A c l) (h2 : 2 ≤ l.length) :
    Calls Try.prog 12 #[.agg #[.slice A l.length c]] w fun e w' => ∃ A' c', e = .returned (.tuple #[.agg #[.slice A' (backR l).length c'], .int .i64 0]) ∧ RowIn encK 32 w' w'.heap.size A' c' (backR l) ∧ Below w.heap.size w w' := by
  have HN := Lib.hid hn
  have hd : decide ((l.length : Int) < 2) = false := by simp; omega
  obtain ⟨t, ht⟩ : ∃ t, l.take (l.length - 1) = t := ⟨_, rfl⟩
  have HT := Lib.hid (show backR l = t by unfold backR; rw [if_neg (by omega), ht])
  have htl : t.length = l.length - 1 := by rw [← ht, List.length_take]; omega
  have hle := hl.le
  have hm2 : (l.length : Int) - 1 = (t.length : Int) := by omega
  have hmw : IntKind.i64.wrap (t.length : Int) = (t.length : Int) := by rw [IntKind.wrap_i64]; omega
  have hs : ∀ W, (Instr.slice 22 (.slice A l.length c) none (some (.int .i64 (t.length : Int))) none).run Try.prog W = .ok (.slice A t.length c) W := fun W => tyKy.slice_to W A l.length c t.length (by omega)
  have B0 := Lib.hid (show Below w.heap.size w ((w.alloc (.cells #[.slice A l.length c] 27)).alloc (.cells #[.slice none 0 0] 27)) from ((Below.refl w.heap.size w).alloc (Nat.le_refl _) _).alloc (by simp) _)
  have L0 := Lib.hid (show RowIn encK 32 ((w.alloc (.cells #[.slice A l.length c] 27)).alloc (.cells #[.slice none 0 0] 27)) w.heap.size A c t from by rw [← ht]; exact (hl.below B0.out).take encK_len _)
  have R0 := Lib.hid (show Blk ((w.alloc (.cells #[.slice A l.length c] 27)).alloc (.cells #[.slice none 0 0] 27)) (w.heap.size + 1) 27 #[.slice none 0 0] from blk_new (g := w.heap.size + 1) 27 #[.slice none 0 0] (by simp))
  have HTL := Lib.hid htl
  clear hl hn h2 ht htl hle
  go_enter Try.func12, Try.ntmps12
  go_wp2_with fail
  with_reducible refine (clone_any A c t w.heap.size _ (by have := HN.out; have := HTL.out; omega) (by simp; omega) L0.out).mono ?_
  rintro e w2 ⟨v, rfl, p2, b2⟩
  obtain ⟨A5, c5, rfl, r5⟩ := RowIn.of_own encK_len p2
  have F5 := Lib.hid (fresh_of p2)
  have I5 := Lib.hid r5
  have R4 := Lib.hid (below_blk b2 R0.out R0.out.lt)
  have B4 := Lib.hid (B0.out.trans (b2.mono (by simp; omega)))
  clear p2 r5 b2 R0 B0 L0
  go_wp2_with ((with_reducible refine at_store 2 17 ?_); refine tyRg.wpList_store rfl (.tmp 2) (.tmp 17) rfl rfl (w.heap.size + 1) (A5, t.length, c5) rfl rfl 27 _ R4.out rfl ?_; intro w7 o7 b7)
  refine bodyPost_ret (results_cell_tmp1 rfl _ _ (w.heap.size + 1) 27 _ (0, 0) _ rfl b7 rRp rfl (by kernel_rfl)) rfl ⟨A5, c5, ?_, ?_, B4.out.trans (o7.below (by simp))⟩
  · rw [HT.out]
    rfl
  · rw [HT.out, o7.size]
    exact arow_only I5.out o7 (fun g o hA => by have h := F5.out _ hA; simp only [List.mem_singleton]; intro e; simp at h; omega)
theorem pBack_r : BackOk := by
  intro A c l w hn hl
  by_cases h : l.length < 2
  · refine (pBack_few A c l w h).mono ?_
    rintro e w' ⟨rfl, b⟩
    have e1 : backR l = [] := by unfold backR; rw [if_pos h]
    have e2 : backE l = 166 := by unfold backE; rw [if_pos h]
    rw [e1, e2]
    exact ⟨none, 0, rfl, RowIn.nil (Nat.zero_le _), b⟩
  · have e2 : backE l = 0 := by unfold backE; rw [if_neg h]
    rw [e2]
    exact pBack_some A c l w hn hl (by omega)
set_option maxRecDepth 20000 in
theorem pLast_none (A : Option Addr) (c : Nat) (w : World) :
    Calls Try.prog 14 #[.agg #[.slice A 0 c]] w fun e w' => e = .returned (.tuple #[.agg (encK zeroKey).toArray, .bool false]) ∧ Below w.heap.size w w' := by
  go_enter Try.func14, Try.ntmps14
  go_wp2_with (first
    | ((with_reducible refine at_build 8 ?_); refine wpList_built rfl 24 #[] rfl (encK zeroKey).toArray (by kernel_rfl) ?_)
    | ((with_reducible refine at_store 2 8 ?_); refine tyKc.wpList_store rfl (.tmp 2) (.tmp 8) rfl rfl (w.heap.size + 1) zeroKey rfl rfl 24 _ (blk_new (g := w.heap.size + 1) 24 _ (by simp)) rfl ?_; intro w7 o7 b7))
  exact bodyPost_ret (results_cell_tmp1 rfl _ _ (w.heap.size + 1) 24 _ (0, 0) _ rfl b7 Try.underlying24 rfl (by rw [tyKc.arr]; kernel_rfl)) rfl ⟨rfl, (((Below.refl w.heap.size w).alloc (Nat.le_refl _) _).alloc (by simp) _).trans (o7.below (by simp))⟩
set_option maxRecDepth 20000 in
set_option maxHeartbeats 2000000 in
theorem pLast_some (A : Option Addr) (c : Nat) (l : List K32) (w : World) (hl : RowIn encK 32 w w.heap.size A c l) (hn : l.length ≤ 200) (h0 : 0 < l.length) :
    Calls Try.prog 14 #[.agg #[.slice A l.length c]] w fun e w' => e = .returned (.tuple #[.agg (encK (lastR l)).toArray, .bool true]) ∧ Below w.heap.size w w' := by
  obtain ⟨g, o, hA, hg, hc⟩ := hl.at encK_len (i := l.length - 1) (by omega)
  rw [lastR_get l h0]
  obtain ⟨x, hx⟩ : ∃ x, l[l.length - 1]'(by omega) = x := ⟨l[l.length - 1]'(by omega), rfl⟩
  rw [hx] at hc ⊢
  subst hA
  obtain ⟨m, hm⟩ : ∃ m, l.length - 1 = m := ⟨_, rfl⟩
  rw [hm] at hc
  have hd : ((l.length : Int) == 0) = false := beq_eq_false_iff_ne.mpr (by omega)
  have hm2 : (l.length : Int) - 1 = (m : Int) := by omega
  have hmw : IntKind.i64.wrap (m : Int) = (m : Int) := by rw [IntKind.wrap_i64]; omega
  have hi0 : (0 : Int) ≤ (m : Int) := by omega
  have hi1 : (m : Int) < (l.length : Int) := by omega
  have C0 := Lib.hid (show ∀ cs, RowC ((w.alloc (.cells #[.slice (some ⟨g, o, none⟩) l.length c] 27)).alloc (.cells cs 24)) g (o + m * 32) (encK x) from fun cs => hc.below (((Below.refl w.heap.size w).alloc (Nat.le_refl _) _).alloc (by simp) _) hg)
  clear hl hn h0 hg hc hx hm
  go_enter Try.func14, Try.ntmps14
  go_wp2_with (first
    | ((with_reducible refine at_load 15 ?_); refine tyKc.wpList_load rfl (.tmp 15) rfl g (o + m * 32) rfl x (C0.out _) ?_)
    | ((with_reducible refine at_store 2 16 ?_); refine tyKc.wpList_store rfl (.tmp 2) (.tmp 16) rfl rfl (w.heap.size + 1) x rfl rfl 24 _ (blk_new (g := w.heap.size + 1) 24 _ (by simp)) rfl ?_; intro w7 o7 b7))
  exact bodyPost_ret (results_cell_tmp1 rfl _ _ (w.heap.size + 1) 24 _ (0, 0) _ rfl b7 Try.underlying24 rfl (by rw [tyKc.arr]; kernel_rfl)) rfl ⟨rfl, (((Below.refl w.heap.size w).alloc (Nat.le_refl _) _).alloc (by simp) _).trans (o7.below (by simp))⟩
theorem pLast_r : LastOk := by
  intro A c l w hn hl
  by_cases h : 0 < l.length
  · rw [decide_eq_true h]
    exact pLast_some A c l w hl hn h
  · obtain rfl : l = [] := List.eq_nil_of_length_eq_zero (by omega)
    exact pLast_none A c w
set_option maxRecDepth 20000 in
theorem hasC_any (g : Nat) (k x : K32) (W : World) (hk : Blk W g 24 (encK k).toArray) :
    Calls Try.prog 23 #[.agg (bytesA x.1), .pointer (some ⟨g, 0, none⟩)] W fun e w' => e = .returned (.bool (decide (x = k))) ∧ Below W.heap.size W w' := by
  rw [← encK_bytes]
  have K0 := Lib.hid (hk.alloc (.cells (encK x).toArray 24))
  have X0 := Lib.hid (Blk.new W 24 (encK x).toArray)
  obtain ⟨q, hq⟩ : ∃ q, decide (x = k) = q := ⟨_, rfl⟩
  have HQ := Lib.hid hq
  rw [hq]
  clear hk hq
  go_enter Try.func23, Try.ntmps23
  go_wp2_with (first
    | ((with_reducible refine at_load 2 ?_); refine tyKc.wpList_load rfl (.tmp 2) rfl W.heap.size 0 rfl x (RowC.of_blk X0.out) ?_)
    | ((with_reducible refine at_load 1 ?_); refine tyKc.wpList_load rfl (.tmp 1) rfl g 0 rfl k (RowC.of_blk K0.out) ?_)
    | ((with_reducible refine at_eqlg 4 5 ?_); refine wpList_eql_rowg (by rfl) 24 24 (.tmp 4) (.tmp 5) rfl (encK x).toArray (encK k).toArray rfl rfl (by kernel_rfl) q (fun V => (eqKy_run _ _ V).trans (by rw [HQ.out])) ?_))
  go_ret
  exact ⟨rfl, (Below.refl _ _).alloc (Nat.le_refl _) _⟩
theorem entersH : ∀ args w, (callFunc 23 args).run Try.prog w = .ok (.enter 23 args) w := enters_of Try.func23 (by kernel_rfl) rfl
set_option maxRecDepth 20000 in
theorem pHas_r : HasOk := by
  intro A c l k w hn hl
  have hr : hasR l k = (lastN 4 l).any fun x => decide (x = k) := by
    unfold hasR
    rw [Bool.eq_iff_iff, decide_eq_true_iff, List.any_eq_true]
    exact ⟨fun h => ⟨k, h, by simp⟩, fun ⟨x, h, e⟩ => of_decide_eq_true e ▸ h⟩
  rw [hr]
  have HC := Lib.hid (fun W (hb : Below w.heap.size w W) (hk : Blk W (w.heap.size + 1) 24 (encK k).toArray) =>
    containsFunc_any (tailA 4 A l) (lastN 4 l).length (lastN 4 l) w.heap.size W (by rw [lastN_len]; omega) hb.size (tail_row (hl.below hb)) 23 #[.pointer (some ⟨w.heap.size + 1, 0, none⟩)] (fun x => decide (x = k)) entersH
      (fun x W' hb' => hasC_any (w.heap.size + 1) k x W' (below_blk hb' hk hk.lt)))
  have HT := Lib.hid (fun W => tail4_any A c l W (by omega) hl.le)
  obtain ⟨r, hr2⟩ : ∃ r, ((lastN 4 l).any fun x => decide (x = k)) = r := ⟨_, rfl⟩
  rw [hr2] at HC ⊢
  obtain ⟨n4, hn4⟩ : ∃ n4, (lastN 4 l).length = n4 := ⟨_, rfl⟩
  rw [hn4] at HC HT
  have B0 := Lib.hid (show Below w.heap.size w ((w.alloc (.cells #[.slice A l.length c] 27)).alloc (.cells (encK k).toArray 24)) from ((Below.refl w.heap.size w).alloc (Nat.le_refl _) _).alloc (by simp) _)
  have K0 := Lib.hid (show Blk ((w.alloc (.cells #[.slice A l.length c] 27)).alloc (.cells (encK k).toArray 24)) (w.heap.size + 1) 24 (encK k).toArray from blk_new (g := w.heap.size + 1) 24 (encK k).toArray (by simp))
  clear hr hr2 hn4 hl hn
  go_enter Try.func17, Try.ntmps17
  go_wp2_with fail
  with_reducible refine (HT.out _).mono ?_
  rintro e w2 ⟨rfl, rfl⟩
  go_wp2_with fail
  with_reducible refine (HC.out _ B0.out K0.out).mono ?_
  rintro e w2 ⟨rfl, b2⟩
  have B2 := Lib.hid (B0.out.trans (b2.mono B0.out.size))
  clear b2
  go_wp2_with fail
  go_ret
  exact ⟨rfl, B2.out⟩
end Go.Proofs.Ytiifamfophbbcaa
