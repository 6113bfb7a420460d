/- The document's Look, All, Good, Items; the law's theirs. Written by genVdB.py. -/
import Derived.Test.YthepiegaoekccaaVdA
namespace Go.Proofs.Ythepiegaoekccaa
open Go.RowKit
theorem vown_nil {w : World} {g : Nat} {base : Nat} {e : TypeId} {k : Nat} (hb : Blk w g e #[]) (hg : base ≤ g) : w.ownsRow base e k (.slice (some ⟨g, 0, none⟩) 0 0) 0 [] :=
  ⟨by simp, .inr ⟨g, 0, #[], rfl, hg, hb, Nat.le_refl _, Nat.zero_le _, by simp, by simp⟩⟩
theorem vown_congr {α : Type} {enc : α → List Value} {w : World} {base : Nat} {e : TypeId} {size : Nat} {v : Value} {l m : List α} (h : w.ownsRow base e size v l.length (cellsOf enc l)) (e' : l = m) : w.ownsRow base e size v m.length (cellsOf enc m) := e' ▸ h
theorem vown_grown {w w' : World} {base : Nat} {e : TypeId} {size n : Nat} {v : Value} {xs : List Value} (h : w.ownsRow base e size v n xs) (hg : w.grownBy w' v.ownBlock) (hB : base ≤ w.heap.size) : Below base w w' := (Below.refl _ _).grown hg hB (own_base h)
theorem vbuilt (t : TypeId) (ht : t = 36 ∨ t = 37) (k : K32) (z : IntV .i64) (b : Bool) : Try.prog.built t [(0, .agg (encK k).toArray), (1, .int .i64 z.1), (2, .bool b)] = some (encVd ⟨k, z, b⟩).toArray := by
  obtain ⟨l, hl⟩ := k
  iterate 32 (rcases l with _ | ⟨b, l⟩; · simp at hl)
  rcases l with _ | ⟨b, l⟩
  · rcases ht with rfl | rfl <;> kernel_rfl
  · simp at hl
set_option maxRecDepth 20000 in
set_option maxHeartbeats 2000000 in
theorem rLook_w (A : Option Addr) (c : Nat) (l : List VdV) (id : K32) (it : Int) (w : World) (hl : RowIn encVd 34 w w.heap.size A c l) (hn : l.length ≤ 1000000) :
    Calls Try.prog 13 #[.slice A l.length c, .agg (encK id).toArray, .int .i64 it] w fun e w' => e = .returned (.bool (lookF l id it)) ∧ Below w.heap.size w w' := by
  obtain ⟨r, hr⟩ : ∃ r, lookF l id it = r := ⟨_, rfl⟩
  rw [hr]
  have B0 := Lib.hid (show Below w.heap.size w (w.alloc (.cells (encK id).toArray 27)) ∧ Blk (w.alloc (.cells (encK id).toArray 27)) w.heap.size 27 (encK id).toArray from ⟨(Below.refl _ _).alloc (Nat.le_refl _) _, Blk.new w 27 _⟩)
  have HL := Lib.hid hl
  have R0 := Lib.hid (show lookF (l.drop 0) id it = r from hr)
  clear hr hl
  go_enter Try.func13, Try.ntmps13
  go_wp2_with fail
  go_loopw [7] (fun si wr => ∃ j : Nat, si = .int .i64 j ∧ j ≤ l.length ∧ Hid (lookF (l.drop j) id it = r) ∧ Hid (Below w.heap.size w wr ∧ Blk wr w.heap.size 27 (encK id).toArray)) (fun si _ => l.length - (intOf si).toNat)
  case atStart => exact ⟨0, rfl, Nat.zero_le _, R0, B0⟩
  case round =>
    clear R0 B0
    obtain ⟨j, rfl, hj, HR, HB⟩ := hrel
    by_cases hlt : j < l.length
    · have hd : decide ((j : Int) < (l.length : Int)) = true := by simp; omega
      have hi0 : (0 : Int) ≤ (j : Int) := by omega
      have hi1 : (j : Int) < (l.length : Int) := by omega
      obtain ⟨g, o, hA, hg, hc⟩ := (HL.out.below HB.out.1).at encVd_len hlt
      obtain ⟨x, hx⟩ : ∃ x, l[j]'hlt = x := ⟨_, rfl⟩
      rw [hx] at hc
      subst hA
      have HDR := Lib.hid (show l.drop j = x :: l.drop (j + 1) by rw [List.drop_eq_getElem_cons hlt, hx])
      have hg2 := Nat.lt_of_lt_of_le hg HB.out.1.size
      have D1 := Lib.hid (show ∀ W, From wr W → RowC W g (o + j * 34) (encK x.tx) from fun W hC => (hc.below hC.below hg2).vd_tx)
      have D2 := Lib.hid (show ∀ W, From wr W → RowC W w.heap.size 0 (encK id) from fun W hC => RowC.of_blk (below_blk hC.below HB.out.2 HB.out.2.lt))
      have D3 := Lib.hid (show ∀ W, From wr W → W.cell? ⟨g, o + j * 34 + 32, none⟩ = some (.int .i64 x.item.1) from fun W hC => (hc.below hC.below hg2).vd_item)
      have D4 := Lib.hid (show ∀ W, From wr W → W.cell? ⟨g, o + j * 34 + 33, none⟩ = some (.bool x.good) from fun W hC => (hc.below hC.below hg2).vd_good)
      have HJ := Lib.hid (show j + 1 ≤ l.length from hlt)
      clear hx hc hg hg2 hlt
      obtain ⟨q, hq⟩ : ∃ q, decide (x.tx = id) = q := ⟨_, rfl⟩
      have HQ := Lib.hid hq
      clear hq
      cases q with
      | false =>
        have HM := Lib.hid (show ¬ (x.tx = id ∧ x.item.1 = it) from fun h => of_decide_eq_false HQ.out h.1)
        go_wp2_with fail
        refine wp_region_from (by kernel_rfl) (by kernel_rfl) ?_
        repeat (first
          | go_big_quiet_skip
          | ((with_reducible refine at_qload 17 ?_); refine tyKc.wpQuiet_load (by rfl) (.tmp 17) rfl (g) (o + j * 34) rfl (x.tx) (fun W hC => D1.out W hC) ?_; simp only [Act.put, List.setIfInBounds_toArray, List.set_cons_succ, List.set_cons_zero])
          | ((with_reducible refine at_qload 4 ?_); refine tyKc.wpQuiet_load (by rfl) (.tmp 4) rfl (w.heap.size) (0) rfl (id) (fun W hC => D2.out W hC) ?_; simp only [Act.put, List.setIfInBounds_toArray, List.set_cons_succ, List.set_cons_zero])
          | ((with_reducible refine at_qeql 18 19 ?_); refine wpQuiet_eql_row (by rfl) 27 27 (.tmp 18) (.tmp 19) rfl (encK x.tx).toArray (encK id).toArray rfl rfl (by kernel_rfl) false (fun V => (eqKy_run _ _ V).trans (by rw [HQ.out])) ?_; simp only [Act.put, List.setIfInBounds_toArray, List.set_cons_succ, List.set_cons_zero])
          | ((with_reducible refine at_qload 25 ?_); refine wpQuiet_load_one (by rfl) 3 (.tmp 25) rfl ⟨g, o + j * 34 + 32, none⟩ rfl (.int .i64 x.item.1) Try.isAgg3 (fun W hC => D3.out W hC) ?_; simp only [Act.put, List.setIfInBounds_toArray, List.set_cons_succ, List.set_cons_zero])
          | (go_big_quiet_want; go_big_quiet_op; refine ⟨_, fun _ _ => by with_reducible rfl, ?_⟩; go_big_quiet_on)
          | go_big_quiet_step (fail))
        refine wpQuiet_nil ?_
        intro w9 hC
        have B9 := Lib.hid (HB.out.1.trans (hC.below.mono HB.out.1.size))
        have K9 := Lib.hid (below_blk hC.below HB.out.2 HB.out.2.lt)
        clear hC D1 D2 D3 D4 HB
        go_wp2_with fail
        go_roundw
        case rel => exact ⟨j + 1, by go_num, HJ.out, Lib.hid (by rw [← HR.out, HDR.out]; exact (lookF_miss HM.out).symm), Lib.hid ⟨B9.out, K9.out⟩⟩
        case measure => have := HJ.out; simp [intOf]; omega
      | true =>
        obtain ⟨p, hp⟩ : ∃ p, (x.item.1 == it) = p := ⟨_, rfl⟩
        cases p with
        | false =>
          have HM := Lib.hid (show ¬ (x.tx = id ∧ x.item.1 = it) from fun h => by rw [h.2] at hp; simp at hp)
          go_wp2_with fail
          refine wp_region_from (by kernel_rfl) (by kernel_rfl) ?_
          repeat (first
            | go_big_quiet_skip
            | ((with_reducible refine at_qload 17 ?_); refine tyKc.wpQuiet_load (by rfl) (.tmp 17) rfl (g) (o + j * 34) rfl (x.tx) (fun W hC => D1.out W hC) ?_; simp only [Act.put, List.setIfInBounds_toArray, List.set_cons_succ, List.set_cons_zero])
            | ((with_reducible refine at_qload 4 ?_); refine tyKc.wpQuiet_load (by rfl) (.tmp 4) rfl (w.heap.size) (0) rfl (id) (fun W hC => D2.out W hC) ?_; simp only [Act.put, List.setIfInBounds_toArray, List.set_cons_succ, List.set_cons_zero])
            | ((with_reducible refine at_qeql 18 19 ?_); refine wpQuiet_eql_row (by rfl) 27 27 (.tmp 18) (.tmp 19) rfl (encK x.tx).toArray (encK id).toArray rfl rfl (by kernel_rfl) true (fun V => (eqKy_run _ _ V).trans (by rw [HQ.out])) ?_; simp only [Act.put, List.setIfInBounds_toArray, List.set_cons_succ, List.set_cons_zero])
            | ((with_reducible refine at_qload 25 ?_); refine wpQuiet_load_one (by rfl) 3 (.tmp 25) rfl ⟨g, o + j * 34 + 32, none⟩ rfl (.int .i64 x.item.1) Try.isAgg3 (fun W hC => D3.out W hC) ?_; simp only [Act.put, List.setIfInBounds_toArray, List.set_cons_succ, List.set_cons_zero])
            | (go_big_quiet_want; go_big_quiet_op; refine ⟨_, fun _ _ => by with_reducible rfl, ?_⟩; go_big_quiet_on)
            | go_big_quiet_step (fail))
          refine wpQuiet_nil ?_
          intro w9 hC
          have B9 := Lib.hid (HB.out.1.trans (hC.below.mono HB.out.1.size))
          have K9 := Lib.hid (below_blk hC.below HB.out.2 HB.out.2.lt)
          clear hC D1 D2 D3 D4 HB
          go_wp2_with fail
          go_roundw
          case rel => exact ⟨j + 1, by go_num, HJ.out, Lib.hid (by rw [← HR.out, HDR.out]; exact (lookF_miss HM.out).symm), Lib.hid ⟨B9.out, K9.out⟩⟩
          case measure => have := HJ.out; simp [intOf]; omega
        | true =>
          have HM := Lib.hid (show lookF l.attach.unattach id it = lookF l.attach.unattach id it from rfl)
          have HX := Lib.hid (show r = x.good by rw [← HR.out, HDR.out]; exact lookF_hit (of_decide_eq_true HQ.out) (by simpa using hp))
          go_wp2_with fail
          refine wp_region_from (by kernel_rfl) (by kernel_rfl) ?_
          repeat (first
            | go_big_quiet_skip
            | ((with_reducible refine at_qload 17 ?_); refine tyKc.wpQuiet_load (by rfl) (.tmp 17) rfl (g) (o + j * 34) rfl (x.tx) (fun W hC => D1.out W hC) ?_; simp only [Act.put, List.setIfInBounds_toArray, List.set_cons_succ, List.set_cons_zero])
            | ((with_reducible refine at_qload 4 ?_); refine tyKc.wpQuiet_load (by rfl) (.tmp 4) rfl (w.heap.size) (0) rfl (id) (fun W hC => D2.out W hC) ?_; simp only [Act.put, List.setIfInBounds_toArray, List.set_cons_succ, List.set_cons_zero])
            | ((with_reducible refine at_qeql 18 19 ?_); refine wpQuiet_eql_row (by rfl) 27 27 (.tmp 18) (.tmp 19) rfl (encK x.tx).toArray (encK id).toArray rfl rfl (by kernel_rfl) true (fun V => (eqKy_run _ _ V).trans (by rw [HQ.out])) ?_; simp only [Act.put, List.setIfInBounds_toArray, List.set_cons_succ, List.set_cons_zero])
            | ((with_reducible refine at_qload 25 ?_); refine wpQuiet_load_one (by rfl) 3 (.tmp 25) rfl ⟨g, o + j * 34 + 32, none⟩ rfl (.int .i64 x.item.1) Try.isAgg3 (fun W hC => D3.out W hC) ?_; simp only [Act.put, List.setIfInBounds_toArray, List.set_cons_succ, List.set_cons_zero])
            | (go_big_quiet_want; go_big_quiet_op; refine ⟨_, fun _ _ => by with_reducible rfl, ?_⟩; go_big_quiet_on)
            | go_big_quiet_step (fail))
          refine wpQuiet_nil ?_
          intro w9 hC
          have k9 : w9.cell? ⟨g, o + j * 34 + 33, none⟩ = some (.bool x.good) := D4.out w9 hC
          have B9 := Lib.hid (HB.out.1.trans (hC.below.mono HB.out.1.size))
          clear hC D1 D2 D3 D4 HB
          go_wp2_with fail
          go_ret
          exact ⟨by rw [HX.out]; rfl, B9.out⟩
    · have hd : decide ((j : Int) < (l.length : Int)) = false := by simp; omega
      have HX := Lib.hid (show r = false by rw [← HR.out, List.drop_of_length_le (by omega)]; rfl)
      obtain rfl : j = l.length := by omega
      go_wp2_with fail
      go_ret
      exact ⟨by rw [HX.out]; rfl, HB.out.1⟩
set_option maxRecDepth 20000 in
set_option maxHeartbeats 2000000 in
theorem rAll_w (A : Option Addr) (c : Nat) (l : List VdV) (id : K32) (n : Int) (w : World) (hl : RowIn encVd 34 w w.heap.size A c l) (hn : l.length ≤ 1000000) (hi : n ≤ 9223372036854775807) :
    Calls Try.prog 16 #[.slice A l.length c, .agg (encK id).toArray, .int .i64 n] w fun e w' => e = .returned (.bool (allVd l id n)) ∧ Below w.heap.size w w' := by
  obtain ⟨r, hr⟩ : ∃ r, allVd l id n = r := ⟨_, rfl⟩
  rw [hr]
  have B0 := Lib.hid (show Below w.heap.size w (w.alloc (.cells (encK id).toArray 27)) ∧ Blk (w.alloc (.cells (encK id).toArray 27)) w.heap.size 27 (encK id).toArray from ⟨(Below.refl _ _).alloc (Nat.le_refl _) _, Blk.new w 27 _⟩)
  have HL := Lib.hid hl
  have HR := Lib.hid hr
  have HN := Lib.hid hn
  have hn2 : n ≤ 9223372036854775807 := hi
  clear hr hl hi hn
  go_enter Try.func16, Try.ntmps16
  go_wp2_with fail
  go_loopw [7] (fun si wr => ∃ j : Nat, si = .int .i64 j ∧ Hid (∀ i : Nat, i < j → lookF l id (i : Int) = true) ∧ Hid (Below w.heap.size w wr ∧ Blk wr w.heap.size 27 (encK id).toArray)) (fun si _ => n.toNat - (intOf si).toNat)
  case atStart => exact ⟨0, rfl, Lib.hid (fun i hi => absurd hi (Nat.not_lt_zero _)), B0⟩
  case round =>
    clear B0
    obtain ⟨j, rfl, HA, HB⟩ := hrel
    by_cases hlt : (j : Int) < n
    · have hd : decide ((j : Int) < n) = true := decide_eq_true hlt
      obtain ⟨q, hq⟩ : ∃ q, lookF l id (j : Int) = q := ⟨_, rfl⟩
      have HC := Lib.hid (rLook_w A c l id (j : Int) wr ((HL.out.below HB.out.1).more HB.out.1.size) HN.out)
      rw [hq] at HC
      have HQ := Lib.hid hq
      have HLT := Lib.hid hlt
      clear hq
      go_wp2_with (first
        | ((with_reducible refine at_load 4 ?_); refine tyKc.wpList_load rfl (.tmp 4) rfl w.heap.size 0 rfl id (RowC.of_blk HB.out.2) ?_)
        | (go_at_call 13; refine HC.out.mono ?_; rintro e w3 ⟨rfl, b3⟩; have B3 := Lib.hid (HB.out.1.trans (b3.mono HB.out.1.size)); have K3 := Lib.hid (below_blk b3 HB.out.2 HB.out.2.lt); clear b3; cases q))
      · go_ret
        exact ⟨by rw [← HR.out, allVd_bad HLT.out HQ.out]; rfl, B3.out⟩
      · go_roundw
        case rel => exact ⟨j + 1, by go_num, Lib.hid (fun i hi => by
          by_cases e : i = j
          · rw [e]; exact HQ.out
          · exact HA.out i (by omega)), Lib.hid ⟨B3.out, K3.out⟩⟩
        case measure => have := HLT.out; simp [intOf]; omega
    · have hd : decide ((j : Int) < n) = false := decide_eq_false hlt
      have HX := Lib.hid (show r = true by rw [← HR.out]; exact allVd_iff.2 fun i hi => HA.out i (by omega))
      go_wp2_with fail
      go_ret
      exact ⟨by rw [HX.out]; rfl, HB.out.1⟩
theorem goodL_row {W : World} {base n : Nat} {so : Value} {e : TypeId} {id : K32} (h : W.ownsRow base e 34 so n (cellsOf encVd (goodL id n))) : ∃ A c, so = .slice A (goodL id n).length c ∧ RowIn encVd 34 W W.heap.size A c (goodL id n) :=
  RowIn.of_own encVd_len (by rw [goodL_len]; exact h)
set_option maxRecDepth 20000 in
set_option maxHeartbeats 2000000 in
theorem rGood_w (id : K32) (n : Int) (w : World) :
    Calls Try.prog 9 #[.agg (encK id).toArray, .int .i64 n] w fun e w' => ∃ A c, e = .returned (.slice A (goodF id n).length c) ∧ RowIn encVd 34 w' w'.heap.size A c (goodF id n) ∧ Below w.heap.size w w' := by
  obtain ⟨X, hX⟩ : ∃ X, goodF id n = X := ⟨_, rfl⟩
  rw [hX]
  have HX := Lib.hid hX
  have B0 := Lib.hid (show Below w.heap.size w ((w.alloc (.cells (encK id).toArray 27)).alloc (.cells #[] 36)) ∧ Blk ((w.alloc (.cells (encK id).toArray 27)).alloc (.cells #[] 36)) w.heap.size 27 (encK id).toArray from ⟨((Below.refl _ _).alloc (Nat.le_refl _) _).alloc (by simp) _, (Blk.new w 27 _).alloc _⟩)
  have O0 := Lib.hid (show ((w.alloc (.cells (encK id).toArray 27)).alloc (.cells #[] 36)).ownsRow (w.heap.size + 1) 36 34 (.slice (some ⟨w.heap.size + 1, 0, none⟩) 0 0) 0 (cellsOf encVd (goodL id 0)) from vown_nil (blk_new (g := w.heap.size + 1) 36 _ (by simp)) (Nat.le_refl _))
  clear hX
  by_cases hb : (1000 : Int) < n
  · have hd : decide ((1000 : Int) < n) = true := decide_eq_true hb
    have HE := Lib.hid (show X = [] by rw [← HX.out]; unfold goodF; rw [if_pos hb])
    clear hb
    go_enter Try.func9, Try.ntmps9
    go_wp2_with fail
    go_ret
    have hx := HE.out
    subst hx
    exact ⟨_, 0, rfl, RowIn.nil (Nat.zero_le _), B0.out.1⟩
  · have hd : decide ((1000 : Int) < n) = false := decide_eq_false hb
    have HE := Lib.hid (show X = goodL id n.toNat by rw [← HX.out]; unfold goodF; rw [if_neg hb])
    have hn : n ≤ 1000 := by omega
    clear hb
    go_enter Try.func9, Try.ntmps9
    go_wp2_with fail
    go_loopw [5, 6] (fun so si wr => ∃ j : Nat, si = .int .i64 j ∧ j ≤ n.toNat ∧ Hid (wr.ownsRow (w.heap.size + 1) 36 34 so j (cellsOf encVd (goodL id j))) ∧ Hid (Below w.heap.size w wr ∧ Blk wr w.heap.size 27 (encK id).toArray)) (fun _ si _ => n.toNat - (intOf si).toNat)
    case atStart => exact ⟨0, rfl, Nat.zero_le _, O0, B0⟩
    case round =>
      clear O0 B0
      obtain ⟨j, rfl, hj, HO, HB⟩ := hrel
      by_cases hlt : (j : Int) < n
      · have hd : decide ((j : Int) < n) = true := decide_eq_true hlt
        have HV := Lib.hid (show (vdI j).1 = (j : Int) from vdI_val (by omega))
        have HJ := Lib.hid (show j + 1 ≤ n.toNat ∧ j ≤ 1000 by omega)
        have HS := Lib.hid (show w.heap.size + 1 ≤ wr.heap.size from HB.out.2.lt)
        clear hlt
        go_wp2_with (first
          | ((with_reducible refine at_load 2 ?_); refine tyKc.wpList_load rfl (.tmp 2) rfl w.heap.size 0 rfl id (RowC.of_blk HB.out.2) ?_)
          | ((with_reducible refine at_build 19 ?_); refine wpList_built rfl 36 #[(0, .tmp 17), (1, .tmp 18), (2, .const (.bool true))] rfl (encVd ⟨id, vdI j, true⟩).toArray ((congrArg (Try.prog.built 36) ((show _ = [(0, Value.agg (encK id).toArray), (1, Value.int .i64 (j : Int)), (2, Value.bool true)] by kernel_rfl).trans (congrArg (fun z => [(0, Value.agg (encK id).toArray), (1, Value.int .i64 z), (2, Value.bool true)]) HV.out.symm))).trans (vbuilt _ (.inl rfl) id (vdI j) true)) ?_)
          | ((with_reducible refine at_buildSlice 20 ?_); refine tyVr.wpList_build rfl zsVr 1 _ rfl [⟨id, vdI j, true⟩] rfl (by omega) (by omega) (by kernel_rfl) ?_)
          | ((with_reducible refine at_appendg 21 16 20 ?_); refine tyVr.wpList_append1 rfl zcVr 48 zbVr (by omega) (.tmp 16) (.tmp 20) rfl (w.heap.size + 1) _ (goodL id j) rfl (by rw [goodL_len]; exact HO.out.alloc _) _ 1 ⟨id, vdI j, true⟩ rfl (Blk.new _ _ _) (by rw [goodL_len]; have := HJ.out; omega) (by have := HS.out; simp; omega) ?_; intro v5 w5 p5 g5
             have bb := ((Below.refl (w.heap.size + 1) wr).alloc HS.out (.cells (cellsOf encVd [⟨id, vdI j, true⟩]).toArray 36)).trans (vown_grown (HO.out.alloc _) g5 (by have := HS.out; simp; omega))
             have B5 := Lib.hid (And.intro (HB.out.1.trans (bb.mono (Nat.le_succ _))) (below_blk bb HB.out.2 (Nat.lt_succ_self _)))
             rw [goodL_next, goodL_len] at p5
             have O5 := Lib.hid p5
             clear p5 g5 bb))
        go_roundw
        case rel => exact ⟨j + 1, by go_num, HJ.out.1, O5, B5⟩
        case measure => have := HJ.out; simp [intOf]; omega
      · have hd : decide ((j : Int) < n) = false := decide_eq_false hlt
        obtain rfl : j = n.toNat := by omega
        obtain ⟨A2, c2, rfl, r0⟩ := goodL_row HO.out
        have R0 := Lib.hid r0
        clear r0 HO
        go_wp2_with fail
        go_ret
        have hx := HE.out
        subst hx
        exact ⟨A2, c2, rfl, R0.out, HB.out.1⟩
set_option maxRecDepth 20000 in
set_option maxHeartbeats 2000000 in
theorem vtheirs_w (A : Option Addr) (c : Nat) (l : List VdV) (w : World) (hl : RowIn encVd 34 w w.heap.size A c l) (hn : l.length ≤ 1000) :
    Calls Try.prog 14 #[.slice A l.length c] w fun e w' => ∃ A' c', e = .returned (.slice A' l.length c') ∧ RowIn encVd 34 w' w'.heap.size A' c' l ∧ Below w.heap.size w w' := by
  have B0 := Lib.hid (show Below w.heap.size w (w.alloc (.cells #[] 36)) from (Below.refl w.heap.size w).alloc (Nat.le_refl _) _)
  have O0 := Lib.hid (show World.ownsRow (w.alloc (.cells #[] 36)) w.heap.size 36 34 (.slice (some ⟨w.heap.size, 0, none⟩) 0 0) (l.take 0).length (cellsOf encVd (l.take 0)) from vown_nil (Blk.new w 36 #[]) (Nat.le_refl _))
  have HL := Lib.hid hl
  clear hl
  go_enter Try.func14, Try.ntmps14
  go_wp2_with fail
  go_loopw [3, 4] (fun so si wr => ∃ j : Nat, si = .int .i64 j ∧ j ≤ l.length ∧ Hid (wr.ownsRow w.heap.size 36 34 so (l.take j).length (cellsOf encVd (l.take j))) ∧ Hid (Below w.heap.size w wr)) (fun _ si _ => l.length - (intOf si).toNat)
  case atStart => exact ⟨0, rfl, by omega, O0, B0⟩
  case round =>
    clear O0 B0
    obtain ⟨j, rfl, hj, OW, HB⟩ := hrel
    by_cases hlt : j < l.length
    · have hd : decide ((j : Int) < (l.length : Int)) = true := by simp; omega
      obtain ⟨g, o, hA, hg, hc⟩ := (HL.out.below HB.out).at encVd_len hlt
      obtain ⟨x, hx⟩ : ∃ x, l[j]'hlt = x := ⟨_, rfl⟩
      rw [hx] at hc
      subst hA
      have HX := Lib.hid hc
      have HTS := Lib.hid (show l.take j ++ [x] = l.take (j + 1) by rw [List.take_succ_eq_append_getElem hlt, hx])
      have HLL := Lib.hid (show (l.take j).length ≤ 1000 by rw [List.length_take]; omega)
      have hi0 : (0 : Int) ≤ (j : Int) := by omega
      have hi1 : (j : Int) < (l.length : Int) := by omega
      clear hx hc hg
      go_wp2_with (first
        | ((with_reducible refine at_load 15 ?_); refine tyVd.wpList_load rfl (.tmp 15) rfl g (o + j * 34) rfl x HX.out ?_)
        | ((with_reducible refine at_buildSlice 17 ?_); refine tyVr.wpList_build rfl zsVr 1 _ rfl [x] rfl (by omega) (by omega) (by kernel_rfl) ?_)
        | ((with_reducible refine at_appendg 18 12 17 ?_); refine tyVr.wpList_append1 rfl zcVr 48 zbVr (by omega) (.tmp 12) (.tmp 17) rfl w.heap.size _ (l.take j) rfl (OW.out.alloc _) _ 1 x rfl (Blk.new _ _ _) (by have := HLL.out; omega) (by have := HB.out.size; simp; omega) ?_; intro v5 w5 p5 g5
           have OW5 := Lib.hid (vown_congr p5 HTS.out)
           have B5 := Lib.hid ((HB.out.alloc HB.out.size _).trans (vown_grown (OW.out.alloc _) g5 (by have := HB.out.size; simp; omega)))
           clear p5 g5))
      go_roundw
      case rel => exact ⟨j + 1, by go_num, by omega, OW5, B5⟩
      case measure => simp [intOf]; omega
    · have hd : decide ((j : Int) < (l.length : Int)) = false := by simp; omega
      have OWA := vown_congr OW.out (show l.take j = l from List.take_of_length_le (by omega))
      obtain ⟨A5, c5, hv5, r5⟩ := RowIn.of_own encVd_len OWA
      have R5 := Lib.hid r5
      subst hv5
      clear OWA r5
      go_wp2_with fail
      go_ret
      exact ⟨A5, c5, rfl, R5.out, HB.out⟩
/-- how many items a transaction has, as the sum goes round -/
def itemsF (T : TxV) : Int := wrap64 (wrap64 ((T.ins.length : Int) + T.nulls.length) + T.notes.length)
set_option maxRecDepth 20000 in
set_option maxHeartbeats 2000000 in
theorem rItems_w (a : TxA) (w : World) : Calls Try.prog 11 #[.agg a.cells.toArray] w fun e w' => e = .returned (.int .i64 (itemsF a.T)) ∧ Below w.heap.size w w' := by
  have hb : RowC (w.alloc (.cells a.cells.toArray 30)) w.heap.size 0 a.cells := RowC.of_blk (Blk.new _ _ _)
  have c1 := TxA.c1 hb
  have c4 := TxA.c4 hb
  have c5 := TxA.c5 hb
  obtain ⟨r, hr⟩ : ∃ r, itemsF a.T = r := ⟨_, rfl⟩
  rw [hr]
  have HR := Lib.hid hr
  clear hb hr
  go_enter Try.func11, Try.ntmps11
  go_wp2_with fail
  go_ret
  exact ⟨by rw [← HR.out]; rfl, (Below.refl _ _).alloc (Nat.le_refl _) _⟩
end Go.Proofs.Ythepiegaoekccaa
