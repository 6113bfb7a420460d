/- The document's put of coins. Written by genCoP.py. -/
import Derived.Test.YtkjgmhamglhggaaCoiE
import Derived.Deep.RegionHeld3
namespace Go.Proofs.Ytkjgmhamglhggaa
open Go.RowKit
abbrev putP (c : CoinV) (s : List CoinV) : List CoinV := putC CoinV.at_ ltP c s
theorem putP_no {c x : CoinV} {s : List CoinV} (h : ltP c.at_ x.at_ = false) : putP c (x :: s) = x :: putP c s := by
  show (if ltP c.at_ x.at_ then _ else _) = _
  rw [if_neg (by rw [h]; decide)]
theorem putP_yes {c x : CoinV} {s : List CoinV} (h : ltP c.at_ x.at_ = true) : putP c (x :: s) = c :: x :: s := by
  show (if ltP c.at_ x.at_ then _ else _) = _
  rw [if_pos h]
theorem cown_lt {w : World} {base : Nat} {e : TypeId} {k n : Nat} {v : Value} {xs : List Value} (h : w.ownsRow base e k v n xs) : ∀ g, v.ownBlock = some g → g < w.heap.size := by
  intro g hg
  rcases h.2 with ⟨rfl, _⟩ | ⟨g', cap, cur, rfl, hb, hh, _⟩
  · cases hg
  · obtain rfl : g' = g := Option.some.inj hg
    rcases Nat.lt_or_ge g' w.heap.size with hlt | hge
    · exact hlt
    · rw [Array.getElem?_eq_none hge] at hh; cases hh
theorem cown_below {w w' : World} {base : Nat} {e : TypeId} {k n : Nat} {v : Value} {xs : List Value} (h : w.ownsRow base e k v n xs) (hb : Below w.heap.size w w') : w'.ownsRow base e k v n xs :=
  ⟨h.1, h.2.imp id fun ⟨g, cap, cur, h1, h2, h3, h4⟩ => ⟨g, cap, cur, h1, h2, (hb.block g (cown_lt h g (by rw [h1]; rfl))).trans h3, h4⟩⟩
set_option maxRecDepth 20000 in
set_option maxHeartbeats 4000000 in
theorem rPutC_r (A : Option Addr) (c : Nat) (l : List CoinV) (k : CoinV) (w : World) (hl : RowIn encC 68 w w.heap.size A c l) (hn : l.length ≤ 100000) :
    Calls Try.prog 35 #[.slice A l.length c, .agg (encC k).toArray] w fun e w' => ∃ A' c', e = .returned (.slice A' (putP k l).length c') ∧ RowIn encC 68 w' w'.heap.size A' c' (putP k l) ∧ Below w.heap.size w w' := by
  obtain ⟨bb, hbb, hbl⟩ := czbR
  have HBB := Lib.hid hbb
  have HBL := Lib.hid hbl
  have O0 := Lib.hid (show World.ownsRow ((w.alloc (.cells (encC k).toArray 52)).alloc (.cells #[] 52)) (w.heap.size + 1) 52 68 (.slice (some ⟨w.heap.size + 1, 0, none⟩) 0 0) ([] : List CoinV).length (cellsOf encC []) from cown_nil (blk_new (g := w.heap.size + 1) 52 #[] (by simp)) (Nat.le_refl _))
  have B0 := Lib.hid (show Below w.heap.size w ((w.alloc (.cells (encC k).toArray 52)).alloc (.cells #[] 52)) ∧ Blk ((w.alloc (.cells (encC k).toArray 52)).alloc (.cells #[] 52)) w.heap.size 52 (encC k).toArray from ⟨((Below.refl w.heap.size w).alloc (Nat.le_refl _) _).alloc (by simp) _, (Blk.new w 52 (encC k).toArray).alloc _⟩)
  have HL := Lib.hid hl
  obtain ⟨pl, hpl⟩ : ∃ pl, putP k l = pl := ⟨_, rfl⟩
  rw [hpl]
  have HPL := Lib.hid hpl
  clear hl hbb hbl hpl
  go_enter Try.func35, Try.ntmps35
  go_wp2_with fail
  go_loopw [5, 6, 7] (fun so sd si wr => ∃ (j : Nat) (d : Bool) (out : List CoinV), si = .int .i64 j ∧ sd = .bool d ∧ j ≤ l.length ∧ Hid (out.length ≤ j + 1 ∧ (if d = true then out ++ l.drop j = pl else out = l.take j ∧ out ++ putP k (l.drop j) = pl)) ∧ Hid (wr.ownsRow (w.heap.size + 1) 52 68 so out.length (cellsOf encC out)) ∧ Hid (Below w.heap.size w wr ∧ Blk wr w.heap.size 52 (encC k).toArray)) (fun _ _ si _ => l.length - (intOf si).toNat)
  case atStart => exact ⟨0, false, [], rfl, rfl, by omega, Lib.hid ⟨by simp, by rw [if_neg (by decide)]; exact ⟨rfl, HPL.out⟩⟩, O0, B0⟩
  case round =>
    clear O0 B0
    obtain ⟨j, d, out, rfl, rfl, hj, HR, OW, HB⟩ := hrel
    by_cases hlt : j < l.length
    · have hd : decide ((j : Int) < (l.length : Int)) = true := by simp; omega
      obtain ⟨g, o, hA, hg, hc⟩ := HL.out.at encC_len hlt
      obtain ⟨x, hx⟩ : ∃ x, l[j]'hlt = x := ⟨_, rfl⟩
      rw [hx] at hc
      subst hA
      have XA := Lib.hid (show ∀ W, Below w.heap.size w W → RowC W g (o + j * 68) (encC x) from fun W hb => hc.below hb hg)
      have HDR := Lib.hid (show l.drop j = x :: l.drop (j + 1) by rw [List.drop_eq_getElem_cons hlt, hx])
      have HTK := Lib.hid (show l.take (j + 1) = l.take j ++ [x] by rw [List.take_succ_eq_append_getElem hlt, hx])
      have HLL := Lib.hid (show out.length ≤ 1000000 ∧ (out ++ [k]).length ≤ 1000000 from ⟨by have := HR.out.1; omega, by have := HR.out.1; rw [List.length_append]; simp; omega⟩)
      have HOL := Lib.hid (show out.length ≤ j + 1 from HR.out.1)
      have HJ := Lib.hid (show j + 1 ≤ l.length by omega)
      have hi0 : (0 : Int) ≤ (j : Int) := by omega
      have hi1 : (j : Int) < (l.length : Int) := by omega
      clear hx hc hg
      cases d with
      | true =>
        have HD2 := Lib.hid (show (out ++ [x]).length ≤ j + 1 + 1 ∧ (if true = true then (out ++ [x]) ++ l.drop (j + 1) = pl else (out ++ [x]) = l.take (j + 1) ∧ (out ++ [x]) ++ putP k (l.drop (j + 1)) = pl) from ⟨by rw [List.length_append]; have := HOL.out; simp; omega, by
          have := HR.out.2
          rw [if_pos rfl, HDR.out] at this
          rw [if_pos rfl, List.append_assoc]
          exact this⟩)
        go_wp2_with fail
        refine wp_region_from (by kernel_rfl) (by kernel_rfl) ?_
        repeat (first
          | go_big_quiet_skip
          | (go_big_quiet_want; go_big_quiet_op; refine ⟨_, fun _ _ => by with_reducible rfl, ?_⟩; go_big_quiet_on)
          | go_big_quiet_step (fail))
        refine wpQuiet_nil ?_
        intro w1 hC
        have HB1 := Lib.hid (show Below w.heap.size w w1 ∧ Blk w1 w.heap.size 52 (encC k).toArray from ⟨HB.out.1.trans (hC.below.mono HB.out.1.size), below_blk hC.below HB.out.2 HB.out.2.lt⟩)
        have OW1 := Lib.hid (cown_below OW.out hC.below)
        have X1 := Lib.hid (XA.out _ HB1.out.1)
        clear hC OW HB XA
        go_wp2_with (first
        | ((with_reducible refine at_load 34 ?_); refine tyCr.wpList_load rfl (.tmp 34) rfl g (o + j * 68) rfl x X1.out ?_)
        | ((with_reducible refine at_buildSlice 36 ?_); refine tyCr.wpList_build rfl czsR 1 _ rfl [x] rfl (by omega) (by omega) (by kernel_rfl) ?_)
        | ((with_reducible refine at_appendg 37 31 36 ?_); refine tyCr.wpList_append1 rfl czcR bb HBB.out HBL.out (.tmp 31) (.tmp 36) rfl (w.heap.size + 1) _ out rfl (OW1.out.alloc _) _ 1 x rfl (Blk.new _ _ _) (by have := HLL.out; omega) (by have := HB1.out.2.lt; simp; omega) ?_; intro v5 w5 p5 g5
           have OW5 := Lib.hid (cown_congr p5 rfl)
           have BL5 := Lib.hid (cown_grown (OW1.out.alloc _) g5 (by have := HB1.out.2.lt; simp; omega))
           have HB5 := Lib.hid (show Below w.heap.size w w5 ∧ Blk w5 w.heap.size 52 (encC k).toArray from ⟨(HB1.out.1.alloc HB1.out.1.size _).trans (BL5.out.mono (by omega)), below_blk BL5.out (HB1.out.2.alloc _) (by omega)⟩)
           clear p5 g5 BL5))
        go_roundw
        case rel => exact ⟨j + 1, true, out ++ [x], by go_num, rfl, HJ.out, HD2, OW5, HB5⟩
        case measure => simp [intOf]; omega
      | false =>
        obtain ⟨q, hq⟩ : ∃ q, ltP k.at_ x.at_ = q := ⟨_, rfl⟩
        have HQ := Lib.hid hq
        have HRF := Lib.hid (show out = l.take j ∧ out ++ putP k (x :: l.drop (j + 1)) = pl from by
          have := HR.out.2
          rw [if_neg (by decide), HDR.out] at this
          exact this)
        clear hq HR
        go_wp2_with fail
        have AS := Lib.hid (show Below w.heap.size w wr.drew ∧ Blk wr.drew w.heap.size 52 (encC k).toArray from ⟨HB.out.1.drew, HB.out.2⟩)
        refine wp_region_held_drew (S := fun W => Below wr.heap.size wr W) (by kernel_rfl) ((Below.refl wr.heap.size wr).drew) ?_
        have TB := Lib.hid (show ∀ W, Below wr.heap.size wr W → Below w.heap.size w W ∧ Blk W w.heap.size 52 (encC k).toArray from fun W h => ⟨HB.out.1.trans (h.mono HB.out.1.size), below_blk h HB.out.2 HB.out.2.lt⟩)
        intro hS
        refine wpAnyH_take (i := 0) (v := .bool false) rfl (by kernel_rfl) (by kernel_rfl) (by kernel_rfl) (fun _ _ _ h => h) (Or.inl ⟨by rfl, fun W _ => by go_simp; try with_reducible rfl⟩) hS ?_
        simp only [Act.put, List.getElem_toArray, List.getElem_cons_zero, List.setIfInBounds_toArray, List.set_cons_succ, List.set_cons_zero]
        refine wpAnyH_take (i := 1) (v := .bool true) rfl (by kernel_rfl) (by kernel_rfl) (by kernel_rfl) (fun _ _ _ h => h) (Or.inl ⟨by rfl, fun W _ => by go_simp; try with_reducible rfl⟩) hS ?_
        simp only [Act.put, List.getElem_toArray, List.getElem_cons_zero, List.getElem_cons_succ, List.setIfInBounds_toArray, List.set_cons_succ, List.set_cons_zero]
        refine wpAnyH_take (i := 2) (v := .bool true) rfl (by kernel_rfl) (by kernel_rfl) (by kernel_rfl) (fun _ _ _ h => h) (Or.inl ⟨by rfl, fun W _ => by go_simp; try with_reducible rfl⟩) hS ?_
        simp only [Act.put, List.getElem_toArray, List.getElem_cons_zero, List.getElem_cons_succ, List.setIfInBounds_toArray, List.set_cons_succ, List.set_cons_zero]
        refine wpAnyH_take (i := 3) (v := .pointer (some ⟨w.heap.size, 0, none⟩)) rfl (by kernel_rfl) (by kernel_rfl) (by kernel_rfl) (fun _ _ _ h => h) (Or.inl ⟨by rfl, fun W _ => by go_simp; try with_reducible rfl⟩) hS ?_
        simp only [Act.put, List.getElem_toArray, List.getElem_cons_zero, List.getElem_cons_succ, List.setIfInBounds_toArray, List.set_cons_succ, List.set_cons_zero]
        refine wpAnyH_take (i := 4) (v := .agg (encKI .u32 k.at_).toArray) rfl (by kernel_rfl) (by kernel_rfl) (by kernel_rfl) (fun _ _ _ h => h) (tyPt.yieldsIf_load (by rfl) (.tmp 18) rfl w.heap.size 0 rfl k.at_ (fun W h => RowC.co_at (RowC.of_blk (TB.out W h).2))) hS ?_
        simp only [Act.put, List.getElem_toArray, List.getElem_cons_zero, List.getElem_cons_succ, List.setIfInBounds_toArray, List.set_cons_succ, List.set_cons_zero]
        refine wpAnyH_take (i := 5) (v := .slice (some ⟨g, o, none⟩) l.length c) rfl (by kernel_rfl) (by kernel_rfl) (by kernel_rfl) (fun _ _ _ h => h) (Or.inl ⟨by rfl, fun W _ => by go_simp; try with_reducible rfl⟩) hS ?_
        simp only [Act.put, List.getElem_toArray, List.getElem_cons_zero, List.getElem_cons_succ, List.setIfInBounds_toArray, List.set_cons_succ, List.set_cons_zero]
        refine wpAnyH_take (i := 6) (v := .int .i64 j) rfl (by kernel_rfl) (by kernel_rfl) (by kernel_rfl) (fun _ _ _ h => h) (Or.inl ⟨by rfl, fun W _ => by go_simp; try with_reducible rfl⟩) hS ?_
        simp only [Act.put, List.getElem_toArray, List.getElem_cons_zero, List.getElem_cons_succ, List.setIfInBounds_toArray, List.set_cons_succ, List.set_cons_zero]
        refine wpAnyH_take (i := 7) (v := .pointer (some ⟨g, o + j * 68, none⟩)) rfl (by kernel_rfl) (by kernel_rfl) (by kernel_rfl) (fun _ _ _ h => h) (Or.inl ⟨by rfl, fun W _ => by go_simp; try with_reducible rfl⟩) hS ?_
        simp only [Act.put, List.getElem_toArray, List.getElem_cons_zero, List.getElem_cons_succ, List.setIfInBounds_toArray, List.set_cons_succ, List.set_cons_zero]
        refine wpAnyH_take (i := 8) (v := .pointer (some ⟨g, o + j * 68, none⟩)) rfl (by kernel_rfl) (by kernel_rfl) (by kernel_rfl) (fun _ _ _ h => h) (Or.inl ⟨by rfl, fun W _ => by go_simp; try with_reducible rfl⟩) hS ?_
        simp only [Act.put, List.getElem_toArray, List.getElem_cons_zero, List.getElem_cons_succ, List.setIfInBounds_toArray, List.set_cons_succ, List.set_cons_zero]
        refine wpAnyH_take (i := 9) (v := .agg (encKI .u32 x.at_).toArray) rfl (by kernel_rfl) (by kernel_rfl) (by kernel_rfl) (fun _ _ _ h => h) (tyPt.yieldsIf_load (by rfl) (.tmp 23) rfl g (o + j * 68) rfl x.at_ (fun W h => RowC.co_at (XA.out W (TB.out W h).1))) hS ?_
        simp only [Act.put, List.getElem_toArray, List.getElem_cons_zero, List.getElem_cons_succ, List.setIfInBounds_toArray, List.set_cons_succ, List.set_cons_zero]
        refine wpAnyH_ready (rs := [10]) (by kernel_rfl) (by simp) ?_
        refine AllReadyH.cons rfl (fun Kq hK => ?_) AllReadyH.nil
        go_simp
        refine (rLess_r k.at_ x.at_ _).mono ?_
        rintro e y1 ⟨rfl, b1⟩
        rw [HQ.out]
        refine hK.out _ _ (hS.trans (b1.mono hS.size)) (fun hS => ?_)
        clear hK Kq b1
        refine wpAnyH_take (i := 11) (v := .bool q) rfl (by kernel_rfl) (by kernel_rfl) (by kernel_rfl) (fun _ _ _ h => h) (Or.inl ⟨by rfl, fun W _ => by go_simp; try with_reducible rfl⟩) hS ?_
        simp only [Act.put, List.getElem_toArray, List.getElem_cons_zero, List.getElem_cons_succ, List.setIfInBounds_toArray, List.set_cons_succ, List.set_cons_zero]
        refine wpAnyH_done (by kernel_rfl) ?_ _
        have HB1 := Lib.hid (TB.out _ hS)
        have OW1 := Lib.hid (cown_below OW.out hS)
        have X1 := Lib.hid (XA.out _ HB1.out.1)
        clear hS AS TB OW HB
        cases q with
        | true =>
          have HD2 := Lib.hid (show ((out ++ [k]) ++ [x]).length ≤ j + 1 + 1 ∧ (if true = true then ((out ++ [k]) ++ [x]) ++ l.drop (j + 1) = pl else ((out ++ [k]) ++ [x]) = l.take (j + 1) ∧ ((out ++ [k]) ++ [x]) ++ putP k (l.drop (j + 1)) = pl) from ⟨by
            rw [List.length_append, List.length_append, HRF.out.1, List.length_take]
            simp
            omega, by
            rw [if_pos rfl, ← HRF.out.2, putP_yes HQ.out]
            simp⟩)
          go_wp2_with (first
        | ((with_reducible refine at_load 3 ?_); refine tyCrc.wpList_load rfl (.tmp 3) rfl w.heap.size 0 rfl k (RowC.of_blk HB1.out.2) ?_)
        | ((with_reducible refine at_buildSlice 29 ?_); refine tyCr.wpList_build rfl czsR 1 _ rfl [k] rfl (by omega) (by omega) (by kernel_rfl) ?_)
        | ((with_reducible refine at_appendg 30 27 29 ?_); refine tyCr.wpList_append1 rfl czcR bb HBB.out HBL.out (.tmp 27) (.tmp 29) rfl (w.heap.size + 1) _ out rfl (OW1.out.alloc _) _ 1 k rfl (Blk.new _ _ _) (by have := HLL.out.1; omega) (by have := HB1.out.2.lt; simp; omega) ?_; intro v5 w5 p5 g5
           have OW5 := Lib.hid (cown_congr p5 rfl)
           have BL5 := Lib.hid (cown_grown (OW1.out.alloc _) g5 (by have := HB1.out.2.lt; simp; omega))
           have HB5 := Lib.hid (show Below w.heap.size w w5 ∧ Blk w5 w.heap.size 52 (encC k).toArray from ⟨(HB1.out.1.alloc HB1.out.1.size _).trans (BL5.out.mono (by omega)), below_blk BL5.out (HB1.out.2.alloc _) (by omega)⟩)
           clear p5 g5 BL5)
        | ((with_reducible refine at_load 34 ?_); refine tyCr.wpList_load rfl (.tmp 34) rfl g (o + j * 68) rfl x (XA.out _ HB5.out.1) ?_)
        | ((with_reducible refine at_buildSlice 36 ?_); refine tyCr.wpList_build rfl czsR 1 _ rfl [x] rfl (by omega) (by omega) (by kernel_rfl) ?_)
        | ((with_reducible refine at_appendg 37 31 36 ?_); refine tyCr.wpList_append1 rfl czcR bb HBB.out HBL.out (.tmp 31) (.tmp 36) rfl (w.heap.size + 1) _ (out ++ [k]) rfl (OW5.out.alloc _) _ 1 x rfl (Blk.new _ _ _) (by have := HLL.out.2; omega) (by have := HB5.out.2.lt; simp; omega) ?_; intro v6 w6 p6 g6
           have OW6 := Lib.hid (cown_congr p6 rfl)
           have BL6 := Lib.hid (cown_grown (OW5.out.alloc _) g6 (by have := HB5.out.2.lt; simp; omega))
           have HB6 := Lib.hid (show Below w.heap.size w w6 ∧ Blk w6 w.heap.size 52 (encC k).toArray from ⟨(HB5.out.1.alloc HB5.out.1.size _).trans (BL6.out.mono (by omega)), below_blk BL6.out (HB5.out.2.alloc _) (by omega)⟩)
           clear p6 g6 BL6))
          go_roundw
          case rel => exact ⟨j + 1, true, (out ++ [k]) ++ [x], by go_num, rfl, HJ.out, HD2, OW6, HB6⟩
          case measure => simp [intOf]; omega
        | false =>
          have HD2 := Lib.hid (show (out ++ [x]).length ≤ j + 1 + 1 ∧ (if false = true then (out ++ [x]) ++ l.drop (j + 1) = pl else (out ++ [x]) = l.take (j + 1) ∧ (out ++ [x]) ++ putP k (l.drop (j + 1)) = pl) from ⟨by rw [List.length_append]; have := HOL.out; simp; omega, by
            rw [if_neg (by decide)]
            refine ⟨by rw [HTK.out, HRF.out.1], ?_⟩
            rw [← HRF.out.2, putP_no HQ.out]
            simp⟩)
          go_wp2_with (first
        | ((with_reducible refine at_load 34 ?_); refine tyCr.wpList_load rfl (.tmp 34) rfl g (o + j * 68) rfl x X1.out ?_)
        | ((with_reducible refine at_buildSlice 36 ?_); refine tyCr.wpList_build rfl czsR 1 _ rfl [x] rfl (by omega) (by omega) (by kernel_rfl) ?_)
        | ((with_reducible refine at_appendg 37 31 36 ?_); refine tyCr.wpList_append1 rfl czcR bb HBB.out HBL.out (.tmp 31) (.tmp 36) rfl (w.heap.size + 1) _ out rfl (OW1.out.alloc _) _ 1 x rfl (Blk.new _ _ _) (by have := HLL.out; omega) (by have := HB1.out.2.lt; simp; omega) ?_; intro v5 w5 p5 g5
           have OW5 := Lib.hid (cown_congr p5 rfl)
           have BL5 := Lib.hid (cown_grown (OW1.out.alloc _) g5 (by have := HB1.out.2.lt; simp; omega))
           have HB5 := Lib.hid (show Below w.heap.size w w5 ∧ Blk w5 w.heap.size 52 (encC k).toArray from ⟨(HB1.out.1.alloc HB1.out.1.size _).trans (BL5.out.mono (by omega)), below_blk BL5.out (HB1.out.2.alloc _) (by omega)⟩)
           clear p5 g5 BL5))
          go_roundw
          case rel => exact ⟨j + 1, false, out ++ [x], by go_num, rfl, HJ.out, HD2, OW5, HB5⟩
          case measure => simp [intOf]; omega
    · have hd : decide ((j : Int) < (l.length : Int)) = false := by simp; omega
      have HLL := Lib.hid (show out.length ≤ 1000000 from by have := HR.out.1; omega)
      cases d with
      | true =>
        have HO := Lib.hid (show out = pl from by
          have := HR.out.2
          rwa [if_pos rfl, List.drop_of_length_le (by omega), List.append_nil] at this)
        go_wp2_with fail
        go_ret
        obtain ⟨A5, c5, hv5, r5⟩ := RowIn.of_own encC_len (cown_congr OW.out HO.out)
        exact ⟨A5, c5, by rw [hv5]; rfl, r5, HB.out.1⟩
      | false =>
        have HO := Lib.hid (show out ++ [k] = pl from by
          have := HR.out.2
          rw [if_neg (by decide), List.drop_of_length_le (by omega)] at this
          exact this.2)
        go_wp2_with (first
        | ((with_reducible refine at_load 3 ?_); refine tyCrc.wpList_load rfl (.tmp 3) rfl w.heap.size 0 rfl k (RowC.of_blk HB.out.2) ?_)
        | ((with_reducible refine at_buildSlice 42 ?_); refine tyCr.wpList_build rfl czsR 1 _ rfl [k] rfl (by omega) (by omega) (by kernel_rfl) ?_)
        | ((with_reducible refine at_appendg 43 40 42 ?_); refine tyCr.wpList_append1 rfl czcR bb HBB.out HBL.out (.tmp 40) (.tmp 42) rfl (w.heap.size + 1) _ out rfl (OW.out.alloc _) _ 1 k rfl (Blk.new _ _ _) (by have := HLL.out; omega) (by have := HB.out.2.lt; simp; omega) ?_; intro v5 w5 p5 g5
           have OW5 := Lib.hid (cown_congr p5 HO.out)
           have BL5 := Lib.hid (cown_grown (OW.out.alloc _) g5 (by have := HB.out.2.lt; simp; omega))
           have HB5 := Lib.hid (show Below w.heap.size w w5 ∧ Blk w5 w.heap.size 52 (encC k).toArray from ⟨(HB.out.1.alloc HB.out.1.size _).trans (BL5.out.mono (by omega)), below_blk BL5.out (HB.out.2.alloc _) (by omega)⟩)
           clear p5 g5 BL5))
        go_ret
        obtain ⟨A5, c5, hv5, r5⟩ := RowIn.of_own encC_len OW5.out
        exact ⟨A5, c5, by rw [hv5]; rfl, r5, HB5.out.1⟩
end Go.Proofs.Ytkjgmhamglhggaa
