/- The project's points, made, of. Written by genCoPX.py. -/
import Derived.Test.YtkjgmhamglhggaaCoPW
import Derived.Test.YtkjgmhamglhggaaCoiW
namespace Go.Proofs.Ytkjgmhamglhggaa
open Go.RowKit
theorem cbuilt_Co (t : TypeId) (ht : t = 49) (p : PtV) (o : IntV .i64 × K32) (h : IntV .u32) (b : Bool) : Try.prog.built t [(0, .agg (encKI .u32 p).toArray), (1, .agg (encIK .i64 o).toArray), (2, .int .u32 h.1), (3, .bool b)] = some (encC ⟨p, o, h, b⟩).toArray := by
  subst ht
  obtain ⟨⟨l, hl⟩, z⟩ := p
  obtain ⟨y, ⟨k, hk⟩⟩ := o
  iterate 32 (rcases l with _ | ⟨b, l⟩; · simp at hl)
  rcases l with _ | ⟨b, l⟩
  · iterate 32 (rcases k with _ | ⟨b, k⟩; · simp at hk)
    rcases k with _ | ⟨b, k⟩
    · kernel_rfl
    · simp at hk
  · simp at hl
def ptZ0 : PtV := (zeroKey, ⟨0, by decide⟩)
def outZ0 : IntV .i64 × K32 := (⟨0, by decide⟩, zeroKey)
theorem zvPt : ∃ zv, (Try.prog.info? 32).map (fun i => (i.zero, i.bytes)) = some (some zv, 36) ∧ zv.cells = (encKI .u32 ptZ0).toArray := by
  have h : (Try.prog.info? 32).map (fun i => (i.zero, i.bytes)) = some (some (.agg (encKI .u32 ptZ0).toArray), 36) := by kernel_rfl
  exact ⟨_, h, rfl⟩
theorem zvCo : ∃ zv, (Try.prog.info? 49).map (fun i => (i.zero, i.bytes)) = some (some zv, 88) ∧ zv.cells = (encC zeroCoin).toArray := by
  have h : (Try.prog.info? 49).map (fun i => (i.zero, i.bytes)) = some (some (.agg (encC zeroCoin).toArray), 88) := by kernel_rfl
  exact ⟨_, h, rfl⟩
/-- a list that is filled from its head on -/
def fill {α : Type} (n j : Nat) (f : Nat → α) (z : α) : List α := tab n fun i => if i < j then f i else z
theorem fill_len {α : Type} (n j : Nat) (f : Nat → α) (z : α) : (fill n j f z).length = n := tab_len _ _
theorem fill_zero {α : Type} (n : Nat) (f : Nat → α) (z : α) : fill n 0 f z = List.replicate n z := by
  unfold fill tab
  apply List.ext_getElem
  · simp
  · intro i h1 h2
    simp
theorem fill_all {α : Type} (n : Nat) (f : Nat → α) (z : α) : fill n n f z = tab n f := tab_congr n _ _ fun i hi => by simp [hi]
theorem fill_set {α : Type} (n j : Nat) (f : Nat → α) (z : α) : (fill n j f z).set j (f j) = fill n (j + 1) f z := by
  refine tab_set n _ _ j (f j) fun i hi => ?_
  by_cases h : i = j
  · subst h; simp
  · by_cases h2 : i < j
    · simp [h, h2, show i < j + 1 by omega]
    · simp [h, h2, show ¬ i < j + 1 by omega]
def ptsL (id : K32) (n : Nat) : List PtV := tab n fun i => (id, toU32 i)
theorem ptsL_len (id : K32) (n : Nat) : (ptsL id n).length = n := tab_len _ _
theorem ptsL_rev (id : K32) : ∀ n, (ptsL id n).reverse = ptsR id n
  | 0 => rfl
  | n + 1 => by
    have : ptsL id (n + 1) = ptsL id n ++ [(id, toU32 n)] := by
      unfold ptsL tab
      rw [List.range_succ, List.map_append]
      rfl
    rw [this, List.reverse_append, ptsL_rev id n]
    rfl
def madeL (id : K32) (h : IntV .u32) (b : Bool) (os : List (IntV .i64 × K32)) (i : Nat) : CoinV := ⟨(id, toU32 i), (os[i]?).getD outZ0, h, b⟩
theorem madeC_get (id : K32) (h : IntV .u32) (b : Bool) : ∀ (os : List (IntV .i64 × K32)) (k i : Nat) (hi : i < (madeC id h b k os).length), (madeC id h b k os)[i] = ⟨(id, toU32 (k + i)), (os[i]?).getD outZ0, h, b⟩
  | [], _, i, hi => by simp [madeC] at hi
  | o :: os, k, 0, _ => by simp [madeC]
  | o :: os, k, i + 1, hi => by
    have := madeC_get id h b os (k + 1) i (by simpa [madeC] using hi)
    simp only [madeC, List.getElem_cons_succ, List.getElem?_cons_succ]
    rw [this, show k + 1 + i = k + (i + 1) by omega]
theorem madeL_all (id : K32) (h : IntV .u32) (b : Bool) (os : List (IntV .i64 × K32)) : tab os.length (madeL id h b os) = madeC id h b 0 os := by
  apply List.ext_getElem
  · rw [tab_len, madeC_len]
  · intro i h1 h2
    rw [tab_get, madeC_get, Nat.zero_add]
    rfl
set_option maxRecDepth 20000 in
set_option maxHeartbeats 4000000 in
theorem pPoints_any (A : Option Addr) (co n : Nat) (id : K32) (w : World) (hn : n ≤ 1000) :
    Calls Try.prog 38 #[.slice A n co, .agg (encK id).toArray] w fun e w' => ∃ g, e = .returned (.slice (some ⟨g, 0, none⟩) n n) ∧ Blk w' g 32 (cellsOf (encKI .u32) (ptsL id n)).toArray ∧ w.heap.size ≤ g ∧ Below w.heap.size w w' := by
  obtain ⟨zv, hz1, hz2⟩ := zvPt
  have hmk : ∀ W, (Instr.makeSlice 24 (.int .i64 (n : Int)) (.int .i64 (n : Int))).run Try.prog W = .ok (.slice (some ⟨W.heap.size, 0, none⟩) n n) (W.alloc (.cells (cellsOf (encKI .u32) (List.replicate n ptZ0)).toArray 32)) := fun W => tyPt.made W ptZ0 zv 36 hz1 hz2 (by omega) .i64 .i64 n (by omega)
  have H0 := Lib.hid (show Holds w [(w.heap.size, 27, (encK id).toArray)] ((w.alloc (.cells (encK id).toArray 27)).alloc (.cells (cellsOf (encKI .u32) (List.replicate n ptZ0)).toArray 32)) from ((Holds.nil w).box 27 (encK id).toArray).alloc _)
  have K0 := Lib.hid (show Blk ((w.alloc (.cells (encK id).toArray 27)).alloc (.cells (cellsOf (encKI .u32) (List.replicate n ptZ0)).toArray 32)) (w.heap.size + 1) 32 (cellsOf (encKI .u32) (fill n 0 (fun i => ((id, toU32 i) : PtV)) ptZ0)).toArray from by rw [fill_zero]; exact blk_new (g := w.heap.size + 1) 32 _ (by simp))
  clear hz1 hz2
  go_enter Try.func38, Try.ntmps38
  go_wp2_with fail
  clear hmk
  go_loopw [6, 12] (fun _ si wr => ∃ j : Nat, si = .int .i64 j ∧ j ≤ n ∧ Hid (Holds w [(w.heap.size, 27, (encK id).toArray)] wr) ∧ Hid (Blk wr (w.heap.size + 1) 32 (cellsOf (encKI .u32) (fill n j (fun i => ((id, toU32 i) : PtV)) ptZ0)).toArray)) (fun _ si _ => n - (intOf si).toNat)
  case atStart => exact ⟨0, rfl, Nat.zero_le _, H0, K0⟩
  case round =>
    clear H0 K0
    obtain ⟨j, rfl, hj, HH, HB⟩ := hrel
    by_cases hlt : j < n
    · have hd : decide ((j : Int) < (n : Int)) = true := by simp; omega
      have hi0 : (0 : Int) ≤ (j : Int) := by omega
      have hi1 : (j : Int) < (n : Int) := by omega
      have hmc : (j : Int) % 4294967296 = (j : Int) := by omega
      have HV := Lib.hid (show (j : Int) = (toU32 j).1 from (toU32_val (by omega)).symm)
      have HJ := Lib.hid (And.intro hj hlt)
      go_wp2_with (first
        | ((with_reducible refine at_load 3 ?_); refine tyKc.wpList_load rfl (.tmp 3) rfl w.heap.size 0 rfl id (RowC.of_blk (HH.out.at (x := (w.heap.size, 27, (encK id).toArray)) (by simp))) ?_)
        | ((with_reducible refine at_build 20 ?_); refine wpList_built rfl 32 #[(0, .tmp 17), (1, .tmp 19)] rfl (encKI .u32 (id, toU32 j)).toArray ((congrArg (Try.prog.built 32) ((show _ = [(0, Value.agg (encK id).toArray), (1, Value.int .u32 ((j : Nat) : Int))] by kernel_rfl).trans (congrArg (fun z => [(0, Value.agg (encK id).toArray), (1, Value.int .u32 z)]) HV.out))).trans (cbuilt_KI _ rfl id (toU32 j))) ?_)
        | ((with_reducible refine at_store 21 20 ?_); refine tyPt.wpList_store rfl (.tmp 21) (.tmp 20) rfl rfl (w.heap.size + 1) j (id, toU32 j) (by first | rfl | (simp only [Nat.zero_add]; rfl)) rfl 32 _ HB.out (by rw [fill_len]; exact HJ.out.2) ?_; intro w3 o3 b3
           have B3 := Lib.hid (show Blk w3 (w.heap.size + 1) 32 (cellsOf (encKI .u32) (fill n (j + 1) (fun i => ((id, toU32 i) : PtV)) ptZ0)).toArray from by
             have h3 : (fill n j (fun i => ((id, toU32 i) : PtV)) ptZ0).set j (id, toU32 j) = _ := fill_set n j (fun i => ((id, toU32 i) : PtV)) ptZ0
             rw [h3] at b3
             exact b3)
           have H3 := Lib.hid (show Holds w [(w.heap.size, 27, (encK id).toArray)] w3 from HH.out.low (o3.below (B := w.heap.size + 1) (by simp)) (by omega) (by simp))
           clear b3 o3))
      go_roundw
      case rel => exact ⟨j + 1, by go_num, HJ.out.2, H3, B3⟩
      case measure => have := HJ.out; simp [intOf]; omega
    · have hd : decide ((j : Int) < (n : Int)) = false := by simp; omega
      have hjl : j = n := by omega
      subst hjl
      have HB2 := Lib.hid (show Blk wr (w.heap.size + 1) 32 (cellsOf (encKI .u32) (ptsL id j)).toArray from by have := HB.out; rwa [fill_all] at this)
      clear HB
      go_wp2_with fail
      go_ret
      exact ⟨w.heap.size + 1, rfl, HB2.out, by omega, HH.out.below⟩
theorem RowC.only {w w' : World} {g gg off : Nat} {cs : List Value} (h : RowC w g off cs) (o : Only [gg] w w') (hne : g ≠ gg) : RowC w' g off cs := fun i v hi => (o.cell (by simpa using hne)).trans (h i v hi)
theorem yieldsIf_built {P : Program} {ops : Array Oper} {S : World → Prop} {a : Act} {o : Oper} (hw : Region.wanted o (yielded ops a.tmps) = true) (t : TypeId) (parts : Array (Nat × Operand)) (ho : o.op = .build t parts) (cells : Array Value)
    (hb : P.built t (parts.map fun (i, x) => (i, a.eval x)).toList = some cells) : YieldsIf P ops S o (.agg cells) a :=
  .inl ⟨hw, fun w _ => by
    unfold execOp
    simp only [ho, Sem.run_bind, run_build w t _ cells hb, Result.andThen_ok]
    rfl⟩
set_option maxRecDepth 20000 in
set_option maxHeartbeats 4000000 in
theorem pMade_any (A : Option Addr) (co : Nat) (os : List (IntV .i64 × K32)) (id : K32) (h : IntV .u32) (b : Bool) (w : World) (hr : RowIn (encIK .i64) 33 w w.heap.size A co os) (hn : os.length ≤ 400) :
    Calls Try.prog 30 #[.slice A os.length co, .agg (encK id).toArray, .int .u32 h.1, .bool b] w fun e w' => ∃ g, e = .returned (.slice (some ⟨g, 0, none⟩) os.length os.length) ∧ Blk w' g 49 (cellsOf encC (madeC id h b 0 os)).toArray ∧ w.heap.size ≤ g ∧ Below w.heap.size w w' := by
  obtain ⟨zv, hz1, hz2⟩ := zvCo
  have hmk : ∀ W, (Instr.makeSlice 22 (.int .i64 (os.length : Int)) (.int .i64 (os.length : Int))).run Try.prog W = .ok (.slice (some ⟨W.heap.size, 0, none⟩) os.length os.length) (W.alloc (.cells (cellsOf encC (List.replicate os.length zeroCoin)).toArray 49)) := fun W => tyCo.made W zeroCoin zv 88 hz1 hz2 (by omega) .i64 .i64 os.length (by omega)
  obtain ⟨Z, hZ, hz, hzs, hzn⟩ := zero_of zeroPt_ok zeroPt_size
  have HZS := Lib.hid hzs
  have H0 := Lib.hid (show Holds w [(w.heap.size, 27, (encK id).toArray)] ((w.alloc (.cells (encK id).toArray 27)).alloc (.cells (cellsOf encC (List.replicate os.length zeroCoin)).toArray 49)) from ((Holds.nil w).box 27 (encK id).toArray).alloc _)
  have K0 := Lib.hid (show Blk ((w.alloc (.cells (encK id).toArray 27)).alloc (.cells (cellsOf encC (List.replicate os.length zeroCoin)).toArray 49)) (w.heap.size + 1) 49 (cellsOf encC (fill os.length 0 (madeL id h b os) zeroCoin)).toArray from by rw [fill_zero]; exact blk_new (g := w.heap.size + 1) 49 _ (by simp))
  have HR := Lib.hid hr
  have HN := Lib.hid hn
  have hm0 : os.length ≤ 9223372036854775807 := by omega
  clear hz1 hz2 hr hZ hzs
  go_enter Try.func30, Try.ntmps30
  go_wp2_with ((with_reducible refine at_load 5 ?_); refine tyKc.wpList_load rfl (.tmp 5) rfl w.heap.size 0 rfl id (RowC.of_blk (H0.out.at (x := (w.heap.size, 27, (encK id).toArray)) (by simp))) ?_)
  refine (pPoints_any A co os.length id _ (by have := HN.out; omega)).mono ?_
  rintro e w1 ⟨g2, rfl, p1, hg2, b1⟩
  have HG2 := Lib.hid (show w.heap.size + 2 ≤ g2 from Nat.le_trans (by simp) hg2)
  have P1 := Lib.hid (show Below w.heap.size w w1 ∧ Blk w1 (w.heap.size + 1) 49 (cellsOf encC (fill os.length 0 (madeL id h b os) zeroCoin)).toArray ∧ Blk w1 g2 32 (cellsOf (encKI .u32) (ptsL id os.length)).toArray from ⟨H0.out.below.trans (b1.mono H0.out.below.size), below_blk b1 K0.out K0.out.lt, p1⟩)
  clear hmk p1 hg2 b1 H0 K0
  go_wp2_with fail
  go_loopw [10, 19] (fun _ si wr => ∃ j : Nat, si = .int .i64 j ∧ j ≤ os.length ∧ Hid (Below w.heap.size w wr ∧ Blk wr (w.heap.size + 1) 49 (cellsOf encC (fill os.length j (madeL id h b os) zeroCoin)).toArray ∧ Blk wr g2 32 (cellsOf (encKI .u32) (ptsL id os.length)).toArray)) (fun _ si _ => os.length - (intOf si).toNat)
  case atStart => exact ⟨0, rfl, Nat.zero_le _, P1⟩
  case round =>
    clear P1
    obtain ⟨j, rfl, hj, PV⟩ := hrel
    by_cases hlt : j < os.length
    · have hd : decide ((j : Int) < (os.length : Int)) = true := by simp; omega
      have hi0 : (0 : Int) ≤ (j : Int) := by omega
      have hi1 : (j : Int) < (os.length : Int) := by omega
      have HJ := Lib.hid (And.intro hj hlt)
      obtain ⟨go, oo, hA, hgo, hco⟩ := (HR.out.below PV.out.1).at (encIK_len _) hlt
      obtain ⟨o, ho⟩ : ∃ o, os[j]'hlt = o := ⟨_, rfl⟩
      rw [ho] at hco
      subst hA
      have HGO := Lib.hid hgo
      have HMJ := Lib.hid (show madeL id h b os j = ⟨(id, toU32 j), o, h, b⟩ by unfold madeL; rw [List.getElem?_eq_getElem hlt, ho]; rfl)
      have HXP := Lib.hid (show RowC wr g2 (j * 33) (encKI .u32 (id, toU32 j)) from by
        have := (RowC.of_blk PV.out.2.2).at (encKI_len _) (i := j) (by rw [ptsL_len]; exact hlt)
        rw [Nat.zero_add] at this
        unfold ptsL at this
        rwa [tab_get] at this)
      have HO1 := Lib.hid hco
      have HWR := Lib.hid (show w.heap.size + 2 ≤ wr.heap.size from by have := PV.out.2.2.lt; have := HG2.out; omega)
      have HG2R := Lib.hid PV.out.2.2.lt
      clear hco ho hgo
      go_wp2_with (first
        | ((with_reducible refine at_load 22 ?_); refine tyPt.wpList_load rfl (.tmp 22) rfl g2 (j * 33) rfl (id, toU32 j) (fun i v hi => (World.cell?_alloc_lt wr _ _ HG2R.out).trans (HXP.out i v hi)) ?_)
        | ((with_reducible refine at_load 22 ?_); refine tyPt.wpList_load rfl (.tmp 22) rfl g2 (j * 33) rfl (id, toU32 j) HXP.out ?_)
        | ((with_reducible refine at_store 11 23 ?_); refine tyPc.wpList_store rfl (.tmp 11) (.tmp 23) rfl rfl wr.heap.size (id, toU32 j) rfl rfl _ _ (Blk.new wr _ Z) (by rw [HZS.out]) ?_; intro w2 o2 b2
           have K2 := Lib.hid b2
           have B2 := Lib.hid (show Below wr.heap.size wr w2 from ((Below.refl _ _).alloc (Nat.le_refl _) _).trans (o2.below (by simp)))
           clear o2 b2))
      have HO := Lib.hid (show RowC w2 go (oo + j * 33) (encIK .i64 o) from HO1.out.below B2.out (by have := HGO.out; have := HWR.out; omega))
      have PV2 := Lib.hid (show Below w.heap.size w w2.drew ∧ Blk w2.drew (w.heap.size + 1) 49 (cellsOf encC (fill os.length j (madeL id h b os) zeroCoin)).toArray ∧ Blk w2.drew g2 32 (cellsOf (encKI .u32) (ptsL id os.length)).toArray from ⟨(PV.out.1.trans (B2.out.mono PV.out.1.size)).drew, below_blk B2.out PV.out.2.1 PV.out.2.1.lt, below_blk B2.out PV.out.2.2 PV.out.2.2.lt⟩)
      clear PV HXP HO1 HG2R
      have PV := PV2
      clear PV2
      refine wp_region_held_drew (S := fun V => RowC V wr.heap.size 0 (encKI .u32 (id, toU32 j)) ∧ RowC V go (oo + j * 33) (encIK .i64 o)) (by kernel_rfl) ⟨RowC.of_blk K2.out, HO.out⟩ ?_
      intro hS
      generalize w2.drew = wd at PV hS ⊢
      refine wpAnyH_take (i := 0) (v := .slice (some ⟨w.heap.size + 1, 0, none⟩) os.length os.length) rfl (by kernel_rfl) (by kernel_rfl) (by kernel_rfl) (fun _ _ _ h => h) (Or.inl ⟨by rfl, fun W _ => by go_simp; try with_reducible rfl⟩) hS ?_
      simp only [Act.put, List.getElem_toArray, List.getElem_cons_zero, List.setIfInBounds_toArray, List.set_cons_succ, List.set_cons_zero]
      refine wpAnyH_take (i := 1) (v := .int .i64 j) rfl (by kernel_rfl) (by kernel_rfl) (by kernel_rfl) (fun _ _ _ h => h) (Or.inl ⟨by rfl, fun W _ => by go_simp; try with_reducible rfl⟩) hS ?_
      simp only [Act.put, List.getElem_toArray, List.getElem_cons_zero, List.getElem_cons_succ, List.setIfInBounds_toArray, List.set_cons_succ, List.set_cons_zero]
      refine wpAnyH_take (i := 2) (v := .agg (encKI .u32 (id, toU32 j)).toArray) rfl (by kernel_rfl) (by kernel_rfl) (by kernel_rfl) (fun _ _ _ h => h) (tyPc.yieldsIf_load (by rfl) (.tmp 11) rfl wr.heap.size 0 rfl (id, toU32 j) (fun _ h => h.1)) hS ?_
      simp only [Act.put, List.getElem_toArray, List.getElem_cons_zero, List.getElem_cons_succ, List.setIfInBounds_toArray, List.set_cons_succ, List.set_cons_zero]
      refine wpAnyH_take (i := 3) (v := .slice (some ⟨go, oo, none⟩) os.length co) rfl (by kernel_rfl) (by kernel_rfl) (by kernel_rfl) (fun _ _ _ h => h) (Or.inl ⟨by rfl, fun W _ => by go_simp; try with_reducible rfl⟩) hS ?_
      simp only [Act.put, List.getElem_toArray, List.getElem_cons_zero, List.getElem_cons_succ, List.setIfInBounds_toArray, List.set_cons_succ, List.set_cons_zero]
      refine wpAnyH_take (i := 4) (v := .int .i64 j) rfl (by kernel_rfl) (by kernel_rfl) (by kernel_rfl) (fun _ _ _ h => h) (Or.inl ⟨by rfl, fun W _ => by go_simp; try with_reducible rfl⟩) hS ?_
      simp only [Act.put, List.getElem_toArray, List.getElem_cons_zero, List.getElem_cons_succ, List.setIfInBounds_toArray, List.set_cons_succ, List.set_cons_zero]
      refine wpAnyH_take (i := 5) (v := .pointer (some ⟨go, oo + j * 33, none⟩)) rfl (by kernel_rfl) (by kernel_rfl) (by kernel_rfl) (fun _ _ _ h => h) (Or.inl ⟨by rfl, fun W _ => by go_simp; try with_reducible rfl⟩) hS ?_
      simp only [Act.put, List.getElem_toArray, List.getElem_cons_zero, List.getElem_cons_succ, List.setIfInBounds_toArray, List.set_cons_succ, List.set_cons_zero]
      refine wpAnyH_take (i := 6) (v := .agg (encIK .i64 o).toArray) rfl (by kernel_rfl) (by kernel_rfl) (by kernel_rfl) (fun _ _ _ h => h) (tyOut.yieldsIf_load (by rfl) (.tmp 29) rfl go (oo + j * 33) rfl o (fun _ h => h.2)) hS ?_
      simp only [Act.put, List.getElem_toArray, List.getElem_cons_zero, List.getElem_cons_succ, List.setIfInBounds_toArray, List.set_cons_succ, List.set_cons_zero]
      refine wpAnyH_take (i := 7) (v := .int .u32 h.1) rfl (by kernel_rfl) (by kernel_rfl) (by kernel_rfl) (fun _ _ _ h => h) (Or.inl ⟨by rfl, fun W _ => by go_simp; try with_reducible rfl⟩) hS ?_
      simp only [Act.put, List.getElem_toArray, List.getElem_cons_zero, List.getElem_cons_succ, List.setIfInBounds_toArray, List.set_cons_succ, List.set_cons_zero]
      refine wpAnyH_take (i := 8) (v := .bool b) rfl (by kernel_rfl) (by kernel_rfl) (by kernel_rfl) (fun _ _ _ h => h) (Or.inl ⟨by rfl, fun W _ => by go_simp; try with_reducible rfl⟩) hS ?_
      simp only [Act.put, List.getElem_toArray, List.getElem_cons_zero, List.getElem_cons_succ, List.setIfInBounds_toArray, List.set_cons_succ, List.set_cons_zero]
      refine wpAnyH_take (i := 9) (v := .agg (encC ⟨(id, toU32 j), o, h, b⟩).toArray) rfl (by kernel_rfl) (by kernel_rfl) (by kernel_rfl) (fun _ _ _ h => h) (yieldsIf_built (by rfl) 49 #[(0, .tmp 26), (1, .tmp 30), (2, .tmp 31), (3, .tmp 32)] rfl _ ((show _ = Try.prog.built 49 [(0, Value.agg (encKI .u32 (id, toU32 j)).toArray), (1, Value.agg (encIK .i64 o).toArray), (2, Value.int .u32 h.1), (3, Value.bool b)] from congrArg (Try.prog.built 49) (by kernel_rfl)).trans (cbuilt_Co _ rfl _ _ _ _))) hS ?_
      simp only [Act.put, List.getElem_toArray, List.getElem_cons_zero, List.getElem_cons_succ, List.setIfInBounds_toArray, List.set_cons_succ, List.set_cons_zero]
      refine wpAnyH_take (i := 10) (v := .pointer (some ⟨w.heap.size + 1, j * 68, none⟩)) rfl (by kernel_rfl) (by kernel_rfl) (by kernel_rfl) (fun _ _ _ h => h) (Or.inl ⟨by rfl, fun W _ => by go_simp; try with_reducible rfl⟩) hS ?_
      simp only [Act.put, List.getElem_toArray, List.getElem_cons_zero, List.getElem_cons_succ, List.setIfInBounds_toArray, List.set_cons_succ, List.set_cons_zero]
      refine wpAnyH_ready (rs := [11]) (by kernel_rfl) (by simp) ?_
      refine AllReadyH.cons rfl (fun Kq hK => ?_) AllReadyH.nil
      refine tyCoc.step_storeAt rfl (.tmp 34) (.tmp 33) rfl rfl (w.heap.size + 1) (j * 68) ⟨(id, toU32 j), o, h, b⟩ rfl rfl 49 _ PV.out.2.1 (by rw [cellsOf_len encC_len, fill_len]; have := HJ.out.2; omega) ?_
      intro w4 o4 b4
      rw [tyCo.splice_set _ j (by rw [fill_len]; exact HJ.out.2)] at b4
      have B4 := Lib.hid (show Blk w4 (w.heap.size + 1) 49 (cellsOf encC (fill os.length (j + 1) (madeL id h b os) zeroCoin)).toArray from by
        rw [← fill_set os.length j (madeL id h b os) zeroCoin, HMJ.out]
        exact b4)
      have PV4 := Lib.hid (And.intro (PV.out.1.trans (o4.below (B := w.heap.size) (by simp))) (And.intro B4.out (o4.blk PV.out.2.2 (by have := HG2.out; simp; omega))))
      refine hK.out _ _ ⟨by have h1 := hS.1; exact h1.only o4 (by have := HG2.out; have := HWR.out; simp; omega), by have h1 := hS.2; exact h1.only o4 (by have := HGO.out; simp; omega)⟩ (fun hS => ?_)
      clear hK Kq o4 b4 PV B4
      refine wpAnyH_done (by kernel_rfl) ?_ _
      clear hS
      go_wp2_with fail
      go_roundw
      case rel => exact ⟨j + 1, by go_num, HJ.out.2, PV4⟩
      case measure => have := HJ.out; simp [intOf]; omega
    · have hd : decide ((j : Int) < (os.length : Int)) = false := by simp; omega
      have hjl : j = os.length := by omega
      subst hjl
      have HB2 := Lib.hid (show Blk wr (w.heap.size + 1) 49 (cellsOf encC (madeC id h b 0 os)).toArray from by have := PV.out.2.1; rwa [fill_all, madeL_all] at this)
      go_wp2_with fail
      go_ret
      exact ⟨w.heap.size + 1, rfl, HB2.out, by omega, PV.out.1⟩
end Go.Proofs.Ytkjgmhamglhggaa
