/- The document's Put, Same of evicted transactions. Written by genRcB.py. -/
import Derived.Test.YtiboelfakajohaaRcA
namespace Go.Proofs.Ytiboelfakajohaa
open Go.RowKit
set_option maxRecDepth 20000 in
set_option maxHeartbeats 2000000 in
theorem rPut_w (A : Option Addr) (c : Nat) (l : List ItV) (id : K32) (now : IntV .u64) (w : World) (hl : RowIn (encKI .u64) 33 w w.heap.size A c l) (hn : l.length ≤ 100000) :
    Calls Try.prog 11 #[.slice A l.length c, .agg (encK id).toArray, .int .u64 now.1] w fun e w' => ∃ A' c', e = .returned (.slice A' (putI l id now).length c') ∧ RowIn (encKI .u64) 33 w' w'.heap.size A' c' (putI l id now) ∧ Below w.heap.size w w' := by
  have B0 := Lib.hid (show Below w.heap.size w ((w.alloc (.cells (encK id).toArray 24)).alloc (.cells #[] 43)) ∧ Blk ((w.alloc (.cells (encK id).toArray 24)).alloc (.cells #[] 43)) w.heap.size 24 (encK id).toArray from ⟨((Below.refl _ _).alloc (Nat.le_refl _) _).alloc (by simp) _, (Blk.new w 24 _).alloc _⟩)
  have O0 := Lib.hid (show World.ownsRow ((w.alloc (.cells (encK id).toArray 24)).alloc (.cells #[] 43)) (w.heap.size + 1) 43 33 (.slice (some ⟨w.heap.size + 1, 0, none⟩) 0 0) ((l.take 0).filter fun x => !(decide (x.1 = id))).length (cellsOf (encKI .u64) ((l.take 0).filter fun x => !(decide (x.1 = id)))) from iown_nil (blk_new (g := w.heap.size + 1) 43 _ (by simp)) (Nat.le_refl _))
  have HL := Lib.hid hl
  have HN := Lib.hid hn
  obtain ⟨R, hR⟩ : ∃ R, addI l id now = R := ⟨_, rfl⟩
  have HP := Lib.hid (show putI l id now = R.drop (R.length - 5) by unfold putI; rw [hR])
  have HRL := Lib.hid (show R.length ≤ l.length + 1 from hR ▸ addI_len l id now)
  have HR := Lib.hid hR
  rw [HP.out]
  clear hl hR
  go_enter Try.func11, Try.ntmps11
  go_wp2_with fail
  go_loopw [7, 8] (fun so si wr => ∃ j : Nat, si = .int .i64 j ∧ j ≤ l.length ∧ Hid (wr.ownsRow (w.heap.size + 1) 43 33 so ((l.take j).filter fun x => !(decide (x.1 = id))).length (cellsOf (encKI .u64) ((l.take j).filter fun x => !(decide (x.1 = id))))) ∧ Hid (Below w.heap.size w wr ∧ Blk wr w.heap.size 24 (encK id).toArray)) (fun _ si _ => l.length - (intOf si).toNat)
  case atStart => exact ⟨0, rfl, Nat.zero_le _, O0, B0⟩
  case round =>
    clear O0 B0
    obtain ⟨j, rfl, hj, HO, HB⟩ := hrel
    have HS := Lib.hid (show w.heap.size + 1 ≤ wr.heap.size from HB.out.2.lt)
    by_cases hlt : j < l.length
    · have hd : decide ((j : Int) < (l.length : Int)) = true := by simp; omega
      have hi0 : (0 : Int) ≤ (j : Int) := by omega
      have hi1 : (j : Int) < (l.length : Int) := by omega
      obtain ⟨g, o, hA, hg, hc⟩ := (HL.out.below HB.out.1).at (encKI_len .u64) hlt
      have HF := filter_next (fun x : ItV => !(decide (x.1 = id))) l j hlt
      obtain ⟨x, hx⟩ : ∃ x, l[j]'hlt = x := ⟨_, rfl⟩
      rw [hx] at hc HF
      subst hA
      have hg2 := Nat.lt_of_lt_of_le hg HB.out.1.size
      have HG := Lib.hid (And.intro hg hg2)
      have D1 := Lib.hid (show ∀ W, From wr W → RowC W g (o + j * 33) ((encKI .u64) x) from fun W hC => hc.below hC.below hg2)
      have D2 := Lib.hid (show ∀ W, From wr W → RowC W w.heap.size 0 (encK id) from fun W hC => RowC.of_blk (below_blk hC.below HB.out.2 HB.out.2.lt))
      have HJ := Lib.hid (show j + 1 ≤ l.length from hlt)
      have HLE := Lib.hid (show ((l.take j).filter fun x => !(decide (x.1 = id))).length ≤ 100000 from Nat.le_trans (List.length_filter_le _ _) (by rw [List.length_take]; have := HN.out; omega))
      obtain ⟨q, hq⟩ : ∃ q, decide (x.1 = id) = q := ⟨_, rfl⟩
      simp only [hq] at HF
      have HFH := Lib.hid HF
      have HQ := Lib.hid hq
      clear hx hc hg hg2 hlt hq HF
      cases q with
      | true =>
        have HF2 := Lib.hid (show ((l.take j).filter fun x => !(decide (x.1 = id))) = (l.take (j + 1)).filter fun x => !(decide (x.1 = id)) by have := HFH.out; simpa using this.symm)
        go_wp2_with fail
        refine wp_region_from (by kernel_rfl) (by kernel_rfl) ?_
        repeat (first
          | go_big_quiet_skip
          | ((with_reducible refine at_qload 19 ?_); refine tyKc.wpQuiet_load (by rfl) (.tmp 19) rfl (g) (o + j * 33) rfl (x.1) (fun W hC => (D1.out W hC).ki_key) ?_; simp only [Act.put, List.setIfInBounds_toArray, List.set_cons_succ, List.set_cons_zero])
          | ((with_reducible refine at_qload 4 ?_); refine tyKc.wpQuiet_load (by rfl) (.tmp 4) rfl (w.heap.size) (0) rfl (id) (fun W hC => D2.out W hC) ?_; simp only [Act.put, List.setIfInBounds_toArray, List.set_cons_succ, List.set_cons_zero])
          | ((with_reducible refine at_qneq 20 21 ?_); refine wpQuiet_neq_row (by rfl) 24 24 (.tmp 20) (.tmp 21) rfl (encK x.1).toArray (encK id).toArray rfl rfl (by kernel_rfl) true (fun V => (eqKy_run _ _ V).trans (by rw [HQ.out])) ?_; simp only [Act.put, List.setIfInBounds_toArray, List.set_cons_succ, List.set_cons_zero])
          | (go_big_quiet_want; go_big_quiet_op; refine ⟨_, fun _ _ => by with_reducible rfl, ?_⟩; go_big_quiet_on)
          | go_big_quiet_step (fail))
        refine wpQuiet_nil ?_
        intro w9 hC
        have B9 := Lib.hid (HB.out.1.trans (hC.below.mono HB.out.1.size))
        have K9 := Lib.hid (below_blk hC.below HB.out.2 HB.out.2.lt)
        have O9 := Lib.hid (iown_below HO.out hC.below)
        clear hC D1 D2 HB HO
        go_wp2_with fail
        go_roundw
        case rel => exact ⟨j + 1, by go_num, HJ.out, Lib.hid (iown_congr O9.out HF2.out), Lib.hid ⟨B9.out, K9.out⟩⟩
        case measure => have := HJ.out; simp [intOf]; omega
      | false =>
        have HF2 := Lib.hid (show ((l.take j).filter fun x => !(decide (x.1 = id))) ++ [x] = (l.take (j + 1)).filter fun x => !(decide (x.1 = id)) by have := HFH.out; simpa using this.symm)
        go_wp2_with fail
        refine wp_region_from (by kernel_rfl) (by kernel_rfl) ?_
        repeat (first
          | go_big_quiet_skip
          | ((with_reducible refine at_qload 19 ?_); refine tyKc.wpQuiet_load (by rfl) (.tmp 19) rfl (g) (o + j * 33) rfl (x.1) (fun W hC => (D1.out W hC).ki_key) ?_; simp only [Act.put, List.setIfInBounds_toArray, List.set_cons_succ, List.set_cons_zero])
          | ((with_reducible refine at_qload 4 ?_); refine tyKc.wpQuiet_load (by rfl) (.tmp 4) rfl (w.heap.size) (0) rfl (id) (fun W hC => D2.out W hC) ?_; simp only [Act.put, List.setIfInBounds_toArray, List.set_cons_succ, List.set_cons_zero])
          | ((with_reducible refine at_qneq 20 21 ?_); refine wpQuiet_neq_row (by rfl) 24 24 (.tmp 20) (.tmp 21) rfl (encK x.1).toArray (encK id).toArray rfl rfl (by kernel_rfl) false (fun V => (eqKy_run _ _ V).trans (by rw [HQ.out])) ?_; simp only [Act.put, List.setIfInBounds_toArray, List.set_cons_succ, List.set_cons_zero])
          | (go_big_quiet_want; go_big_quiet_op; refine ⟨_, fun _ _ => by with_reducible rfl, ?_⟩; go_big_quiet_on)
          | go_big_quiet_step (fail))
        refine wpQuiet_nil ?_
        intro w9 hC
        have B9 := Lib.hid (HB.out.1.trans (hC.below.mono HB.out.1.size))
        have K9 := Lib.hid (below_blk hC.below HB.out.2 HB.out.2.lt)
        have O9 := Lib.hid (iown_below HO.out hC.below)
        have X9 := Lib.hid (D1.out _ hC)
        have S9 := Lib.hid (Nat.le_trans HS.out hC.below.size)
        clear hC D1 D2 HB HO
        go_wp2_with (first
          | ((with_reducible refine at_load 26 ?_); refine tyIrc.wpList_load rfl (.tmp 26) rfl g (o + j * 33) rfl x X9.out ?_)
          | ((with_reducible refine at_buildSlice 28 ?_); refine tyIr.wpList_build rfl zsIr 1 _ rfl [x] rfl (by omega) (by omega) (by kernel_rfl) ?_)
          | ((with_reducible refine at_appendg 29 23 28 ?_); refine tyIr.wpList_append1 rfl zcIr 40 zbIr (by omega) (.tmp 23) (.tmp 28) rfl (w.heap.size + 1) _ ((l.take j).filter fun x => !(decide (x.1 = id))) rfl (O9.out.alloc _) _ 1 x rfl (Blk.new _ _ _) (Nat.le_trans HLE.out (by decide)) (by have := S9.out; simp; omega) ?_; intro v5 w5 p5 g5
             have O5 := Lib.hid (iown_congr p5 HF2.out)
             have bb := ((Below.refl (w.heap.size + 1) w9).alloc S9.out _).trans (iown_grown (O9.out.alloc _) g5 (by have := S9.out; simp; omega))
             have B5 := Lib.hid (B9.out.trans (bb.mono (Nat.le_succ _)))
             have K5 := Lib.hid (below_blk bb K9.out (Nat.lt_succ_self _))
             clear p5 g5 bb))
        go_roundw
        case rel => exact ⟨j + 1, by go_num, HJ.out, O5, Lib.hid ⟨B5.out, K5.out⟩⟩
        case measure => have := HJ.out; simp [intOf]; omega
    · have hd : decide ((j : Int) < (l.length : Int)) = false := by simp; omega
      have HF2 := Lib.hid (show ((l.take j).filter fun x => !(decide (x.1 = id))) ++ [(id, now)] = R by rw [List.take_of_length_le (by omega)]; exact HR.out)
      have HLE := Lib.hid (show ((l.take j).filter fun x => !(decide (x.1 = id))).length ≤ 100000 from Nat.le_trans (List.length_filter_le _ _) (by rw [List.length_take]; have := HN.out; omega))
      obtain rfl : j = l.length := by omega
      clear hj hlt
      go_wp2_with (first
        | ((with_reducible refine at_load 4 ?_); refine tyKc.wpList_load rfl (.tmp 4) rfl w.heap.size 0 rfl id (RowC.of_blk HB.out.2) ?_)
        | ((with_reducible refine at_build 33 ?_); refine wpList_built rfl 43 #[(0, .tmp 31), (1, .tmp 32)] rfl ((encKI .u64) (id, now)).toArray ((show _ = Try.prog.built 43 [(0, Value.agg (encK id).toArray), (1, Value.int .u64 now.1)] from congrArg (Try.prog.built 43) (by kernel_rfl)).trans (ibuilt _ (.inl rfl) id now)) ?_)
        | ((with_reducible refine at_buildSlice 34 ?_); refine tyIr.wpList_build rfl zsIr 1 _ rfl [(id, now)] rfl (by omega) (by omega) (by kernel_rfl) ?_)
        | ((with_reducible refine at_appendg 35 30 34 ?_); refine tyIr.wpList_append1 rfl zcIr 40 zbIr (by omega) (.tmp 30) (.tmp 34) rfl (w.heap.size + 1) _ ((l.take l.length).filter fun x => !(decide (x.1 = id))) rfl (HO.out.alloc _) _ 1 (id, now) rfl (Blk.new _ _ _) (Nat.le_trans HLE.out (by decide)) (by have := HS.out; simp; omega) ?_; intro v5 w5 p5 g5
           have o5 := iown_congr p5 HF2.out
           have bb := ((Below.refl (w.heap.size + 1) wr).alloc HS.out _).trans (iown_grown (HO.out.alloc _) g5 (by have := HS.out; simp; omega))
           have B5 := Lib.hid (HB.out.1.trans (bb.mono (Nat.le_succ _)))
           obtain ⟨A5, c5, hv5, r5⟩ := RowIn.of_own (encKI_len .u64) o5
           subst hv5
           have R5 := Lib.hid r5
           obtain ⟨n, hnR⟩ : ∃ n, R.length = n := ⟨_, rfl⟩
           have HNR := Lib.hid hnR
           have hcl : n ≤ c5 := hnR ▸ r5.le
           have hnb : n ≤ 100001 := by have h1 := HRL.out; have h2 := HN.out; omega
           rw [hnR]
           have hsl : 5 < n → ∀ W, (Instr.slice 28 (.slice A5 n c5) (some (.int .i64 ((n : Int) - 5))) none none).run Try.prog W = .ok (.slice (cutA 33 c5 (n - 5) A5) 5 (c5 - (n - 5))) W := fun h5 W => by
             have h6 := tyIr.slice_from W A5 n c5 (n - 5) (by omega)
             rw [show ((n - 5 : Nat) : Int) = (n : Int) - 5 by omega, show n - (n - 5) = 5 by omega] at h6
             exact h6
           clear p5 g5 bb o5 r5 hnR hcl
           by_cases h5 : 5 < n
           · have hsl2 := hsl h5
             have hd5 : decide ((5 : Int) < (n : Int)) = true := decide_eq_true (by omega)
             have hw5 : wrap64 ((n : Int) - 5) = (n : Int) - 5 := by unfold wrap64; omega
             have H5 := Lib.hid h5
             clear hsl
             go_wp2_with fail
             go_ret
             have hdl : (R.drop (R.length - 5)).length = 5 := by rw [List.length_drop, HNR.out]; have := H5.out; omega
             exact ⟨_, _, by rw [hdl]; rfl, by have := R5.out.drop (encKI_len .u64) (n - 5) (by rw [HNR.out]; omega); rw [← HNR.out] at this ⊢; exact this, B5.out⟩
           · have hd5 : decide ((5 : Int) < (n : Int)) = false := decide_eq_false (by omega)
             have HD := Lib.hid (show R.drop (R.length - 5) = R by rw [HNR.out, show n - 5 = 0 by omega]; rfl)
             clear hsl
             go_wp2_with fail
             go_ret
             rw [HD.out]
             exact ⟨A5, c5, by rw [HNR.out]; rfl, R5.out, B5.out⟩))
set_option maxRecDepth 20000 in
set_option maxHeartbeats 2000000 in
theorem rSameI_w (A A' : Option Addr) (c c' : Nat) (l : List ItV) (w : World) (hl : RowIn (encKI .u64) 33 w w.heap.size A c l) (hl' : RowIn (encKI .u64) 33 w w.heap.size A' c' l) (hn : l.length ≤ 100000) :
    Calls Try.prog 8 #[.slice A l.length c, .slice A' l.length c'] w fun e w' => e = .returned (.bool true) ∧ Below w.heap.size w w' := by
  have HL := Lib.hid (And.intro hl hl')
  clear hl hl'
  go_enter Try.func8, Try.ntmps8
  go_wp2_with fail
  go_loopw [5] (fun si wr => ∃ j : Nat, si = .int .i64 j ∧ j ≤ l.length ∧ Hid (Below w.heap.size w wr)) (fun si _ => l.length - (intOf si).toNat)
  case atStart => exact ⟨0, rfl, Nat.zero_le _, Lib.hid (Below.refl _ _)⟩
  case round =>
    obtain ⟨j, rfl, hj, HB⟩ := hrel
    by_cases hlt : j < l.length
    · have hd : decide ((j : Int) < (l.length : Int)) = true := by simp; omega
      have hi0 : (0 : Int) ≤ (j : Int) := by omega
      have hi1 : (j : Int) < (l.length : Int) := by omega
      obtain ⟨g7, o7, hA7, hg7, hc7⟩ := (HL.out.1.below HB.out).at (encKI_len .u64) hlt
      obtain ⟨g8, o8, hA8, hg8, hc8⟩ := (HL.out.2.below HB.out).at (encKI_len .u64) hlt
      obtain ⟨x, hx⟩ : ∃ x, l[j]'hlt = x := ⟨_, rfl⟩
      rw [hx] at hc7 hc8
      subst hA7
      subst hA8
      have D7 := Lib.hid (show ∀ W, From wr W → RowC W g7 (o7 + j * 33) ((encKI .u64) x) from fun W hC => hc7.below hC.below (Nat.lt_of_lt_of_le hg7 HB.out.size))
      have D8 := Lib.hid (show ∀ W, From wr W → RowC W g8 (o8 + j * 33) ((encKI .u64) x) from fun W hC => hc8.below hC.below (Nat.lt_of_lt_of_le hg8 HB.out.size))
      have HLT := Lib.hid hlt
      clear hc7 hc8 hx hg7 hg8
      go_wp2_with fail
      refine wp_region_from (by kernel_rfl) (by kernel_rfl) ?_
      repeat (first
        | go_big_quiet_skip
        | ((with_reducible refine at_qload 19 ?_); refine tyIrc.wpQuiet_load (by rfl) (.tmp 19) rfl (g7) (o7 + j * 33) rfl (x) (D7.out) ?_; simp only [Act.put, List.setIfInBounds_toArray, List.set_cons_succ, List.set_cons_zero])
        | ((with_reducible refine at_qload 23 ?_); refine tyIrc.wpQuiet_load (by rfl) (.tmp 23) rfl (g8) (o8 + j * 33) rfl (x) (D8.out) ?_; simp only [Act.put, List.setIfInBounds_toArray, List.set_cons_succ, List.set_cons_zero])
        | ((with_reducible refine at_qneq 20 24 ?_); refine wpQuiet_neq_row (by rfl) 43 43 (.tmp 20) (.tmp 24) rfl ((encKI .u64) x).toArray ((encKI .u64) x).toArray rfl rfl (by kernel_rfl) true (fun V => (eqIr_run _ _ V).trans (by simp)) ?_; simp only [Act.put, List.setIfInBounds_toArray, List.set_cons_succ, List.set_cons_zero])
        | (go_big_quiet_want; go_big_quiet_op; refine ⟨_, fun _ _ => by with_reducible rfl, ?_⟩; go_big_quiet_on)
        | go_big_quiet_step (fail))
      refine wpQuiet_nil ?_
      intro w9 hC
      have B9 := Lib.hid (HB.out.trans (hC.below.mono HB.out.size))
      clear hC D7 D8 HB
      go_wp2_with fail
      go_roundw
      case rel => exact ⟨j + 1, by go_num, HLT.out, B9⟩
      case measure => have := HLT.out; simp [intOf]; omega
    · have hd : decide ((j : Int) < (l.length : Int)) = false := by simp; omega
      obtain rfl : j = l.length := by omega
      go_wp2_with fail
      go_ret
      exact ⟨rfl, HB.out⟩
end Go.Proofs.Ytiboelfakajohaa
