/- The project's list of what may be wrong, and Check. Written by genChE.py. -/
import Derived.Test.YticphjnabecanaaChkV
namespace Go.Proofs.Yticphjnabecanaa
open Go.RowKit
/-- a function with what it captured, its error, and whether it is so -/
structure FlV where
  f : Nat
  cb : List Value
  e : Int
  v : Bool
def encFl (x : FlV) : List Value := [.func (.func x.f) #[] x.cb.toArray, .int .i64 x.e]
theorem encFl_len (x : FlV) : (encFl x).length = 2 := rfl
theorem tyFl : RowTy Try.prog 50 53 encFl 2 := ⟨Try.underlying50, by kernel_rfl, encFl_len, fun x v hv => by
  simp only [encFl, List.mem_cons, List.not_mem_nil, or_false] at hv
  rcases hv with rfl | rfl <;> rfl, Try.isAgg53, by omega⟩
theorem tyFlc : CellTy Try.prog 53 encFl 2 := ⟨tyFl.size, tyFl.len, tyFl.one, tyFl.agg⟩
/-- what may be wrong with T, in order -/
def faultsF (T : TxV) (b : Bool) (g : Nat) : List FlV := [⟨43, [], 110, noneF T⟩, ⟨41, [.pointer (some ⟨g, 0, none⟩)], 112, coinBad T b⟩, ⟨44, [], 111, twiceF T⟩, ⟨45, [], 20, moneyF T⟩]
def firstFl : List FlV → Int
  | [] => 0
  | x :: l => if x.v = true then x.e else firstFl l
theorem firstFl_false : ∀ (l : List FlV) (j : Nat) (h : j < l.length), (∀ i (hi : i < l.length), i < j → l[i].v = false) → firstFl l = if (l[j]).v = true then (l[j]).e else firstFl (l.drop (j + 1))
  | [], j, h, _ => absurd h (Nat.not_lt_zero _)
  | x :: l, 0, _, _ => rfl
  | x :: l, j + 1, h, hf => by
    have h0 := hf 0 (by simp) (by omega)
    simp only [List.getElem_cons_zero] at h0
    rw [show firstFl (x :: l) = if x.v = true then x.e else firstFl l from rfl, h0, if_neg (by decide), firstFl_false l j (by simpa using h) (fun i hi hij => by have := hf (i + 1) (by simpa using hi) (by omega); simpa using this)]
    rfl
theorem firstFl_none : ∀ (l : List FlV), (∀ i (hi : i < l.length), l[i].v = false) → firstFl l = 0
  | [], _ => rfl
  | x :: l, hf => by
    have h0 := hf 0 (by simp)
    simp only [List.getElem_cons_zero] at h0
    rw [show firstFl (x :: l) = if x.v = true then x.e else firstFl l from rfl, h0, if_neg (by decide)]
    exact firstFl_none l fun i hi => by have := hf (i + 1) (by simpa using hi); simpa using this
theorem check_first (T : TxV) (b : Bool) (g : Nat) (h : (encF T).2 = 0) : checkF T b = firstFl (faultsF T b g) := by
  unfold checkF
  rw [if_neg (by rw [h]; simp)]
  rfl
set_option maxRecDepth 20000 in
set_option maxHeartbeats 4000000 in
theorem faults_any (T : TxV) (b : Bool) (w : World) :
    Calls Try.prog 20 #[.bool b] w fun e w' => ∃ A c, e = .returned (.slice A 4 c) ∧ RowIn encFl 2 w' w'.heap.size A c (faultsF T b w.heap.size) ∧ w'.cell? ⟨w.heap.size, 0, none⟩ = some (.bool b) ∧ Below w.heap.size w w' := by
  have hmf : ∀ (fn : Fn) (first cap : Array Value) (w : World), (Instr.makeFunc fn first cap).run Try.prog w = .ok (.func fn first cap) w := fun _ _ _ _ => rfl
  have B0 := Lib.hid (show ∀ ob, Below w.heap.size w ((w.alloc (.cells #[.bool b] 4)).alloc ob) from fun ob => ((Below.refl w.heap.size w).alloc (Nat.le_refl _) (.cells #[.bool b] 4)).alloc (by simp) ob)
  have K0 := Lib.hid ((Blk.new w 4 #[.bool b]))
  go_enter Try.func20, Try.ntmps20
  go_wp2_with (first
    | ((with_reducible refine at_build 5 ?_); refine wpList_built rfl 53 #[(0, .func 43), (1, .const (.int .i64 110))] rfl (encFl ⟨43, [], 110, noneF T⟩).toArray (by kernel_rfl) ?_)
    | ((with_reducible refine at_build 7 ?_); refine wpList_built rfl 53 #[(0, .tmp 6), (1, .const (.int .i64 112))] rfl (encFl ⟨41, [.pointer (some ⟨w.heap.size, 0, none⟩)], 112, coinBad T b⟩).toArray (by kernel_rfl) ?_)
    | ((with_reducible refine at_build 8 ?_); refine wpList_built rfl 53 #[(0, .func 44), (1, .const (.int .i64 111))] rfl (encFl ⟨44, [], 111, twiceF T⟩).toArray (by kernel_rfl) ?_)
    | ((with_reducible refine at_build 9 ?_); refine wpList_built rfl 53 #[(0, .func 45), (1, .const (.int .i64 20))] rfl (encFl ⟨45, [], 20, moneyF T⟩).toArray (by kernel_rfl) ?_)
    | ((with_reducible refine at_buildSlice 10 ?_); refine tyFl.wpList_build rfl (by kernel_rfl) 4 #[(0, .tmp 5), (1, .tmp 7), (2, .tmp 8), (3, .tmp 9)] rfl (faultsF T b w.heap.size) rfl (by omega) (by omega) (by kernel_rfl) ?_))
  go_ret
  refine ⟨_, _, rfl, ⟨Nat.le_refl _, by unfold maxLen; omega, fun _ => ⟨w.heap.size + 1, 0, by simp, by simp, ?_⟩⟩, ?_, B0.out _⟩
  · have := RowC.of_blk (blk_new (w := w.alloc (.cells #[.bool b] 4)) (g := w.heap.size + 1) 53 (cellsOf encFl (faultsF T b w.heap.size)).toArray (by simp))
    simpa using this
  · exact (K0.out.alloc _).cell 0
set_option maxRecDepth 20000 in
set_option maxHeartbeats 4000000 in
theorem chEnter_e : ∀ args w, (callFunc 43 args).run Try.prog w = .ok (.enter 43 args) w := enters_of Try.func43 (by kernel_rfl) rfl
theorem chEnter_c : ∀ args w, (callFunc 41 args).run Try.prog w = .ok (.enter 41 args) w := enters_of Try.func41 (by kernel_rfl) rfl
theorem chEnter_r : ∀ args w, (callFunc 44 args).run Try.prog w = .ok (.enter 44 args) w := enters_of Try.func44 (by kernel_rfl) rfl
theorem chEnter_u : ∀ args w, (callFunc 45 args).run Try.prog w = .ok (.enter 45 args) w := enters_of Try.func45 (by kernel_rfl) rfl
theorem faults_enter (T : TxV) (b : Bool) (g : Nat) : ∀ x ∈ faultsF T b g, ∀ args w, (callFunc x.f args).run Try.prog w = .ok (.enter x.f args) w := by
  intro x hx
  simp only [faultsF, List.mem_cons, List.not_mem_nil, or_false] at hx
  rcases hx with rfl | rfl | rfl | rfl
  · exact chEnter_e
  · exact chEnter_c
  · exact chEnter_r
  · exact chEnter_u
theorem faults_call (a : TxA) (b : Bool) (g : Nat) (w : World) (ha : a.In w w.heap.size) (hn : Some120 a.T) (hg : w.cell? ⟨g, 0, none⟩ = some (.bool b)) : ∀ x ∈ faultsF a.T b g,
    Calls Try.prog x.f (Value.agg a.cells.toArray :: x.cb).toArray w fun e w' => e = .returned (.bool x.v) ∧ Below w.heap.size w w' := by
  intro x hx
  simp only [faultsF, List.mem_cons, List.not_mem_nil, or_false] at hx
  rcases hx with rfl | rfl | rfl | rfl
  · exact chEmpty_any a w hn
  · exact chCoin_any a b g w hg ha hn
  · exact chRep_any a w ha hn
  · exact chUns_any a w ha hn
set_option maxRecDepth 20000 in
set_option maxHeartbeats 4000000 in
theorem pCheck_c : ChkTOk := by
  intro a b w ha hn
  have HH := Lib.hid (show Holds w [(w.heap.size, 29, a.cells.toArray)] (w.alloc (.cells a.cells.toArray 29)) from (Holds.nil w).box 29 a.cells.toArray)
  have IN := Lib.hid ha
  have HN := Lib.hid hn
  have HEN := Lib.hid (fun W (h : Holds w [(w.heap.size, 29, a.cells.toArray)] W) => encA_any a W (IN.out.on h.below (Nat.le_refl _)))
  obtain ⟨er, her⟩ : ∃ er, (encF a.T).2 = er := ⟨_, rfl⟩
  obtain ⟨sb, hsb⟩ : ∃ sb : ByteArray, (⟨(encF a.T).1.toArray⟩ : ByteArray) = sb := ⟨_, rfl⟩
  unfold encV at HEN
  rw [her, hsb] at HEN
  obtain ⟨ck, hck⟩ : ∃ ck, checkF a.T b = ck := ⟨_, rfl⟩
  rw [hck]
  have HE := Lib.hid her
  have HC := Lib.hid hck
  clear ha hn her hsb hck
  go_enter Try.func13, Try.ntmps13
  go_wp2_with ((with_reducible refine at_load 2 ?_); refine tyTx.wpList_load rfl (.tmp 2) rfl w.heap.size 0 rfl a (RowC.of_blk (HH.out.at (x := (w.heap.size, 29, a.cells.toArray)) (by simp))) ?_)
  with_reducible refine (HEN.out _ HH.out).mono ?_
  rintro e w1 ⟨rfl, bq⟩
  have HQ := Lib.hid (HH.out.call bq)
  clear bq HH
  have HH := HQ
  clear HQ
  clear HEN
  by_cases h0 : er = 0
  · subst h0
    have HFA := Lib.hid (faults_any a.T b w1)
    have hz1 : ((0 : Int) != 0) = false := rfl
    go_wp2_with fail
    with_reducible refine HFA.out.mono ?_
    rintro e w2 ⟨A2, c2, rfl, r2, kb, bq⟩
    have HQ := Lib.hid (HH.out.call bq)
    have HB1 := Lib.hid (show ∀ W, Below w2.heap.size w2 W → W.cell? ⟨w1.heap.size, 0, none⟩ = some (.bool b) from fun W h => (h.cell (World.block_lt_of_cell? w2 ⟨w1.heap.size, 0, none⟩ kb)).trans kb)
    have HCF := Lib.hid (check_first a.T b w1.heap.size HE.out)
    have HCL := Lib.hid (fun W (h : Below w2.heap.size w2 W) => faults_call a b w1.heap.size W (IN.out.on ((HQ.out.call h).below) (Nat.le_refl _)) HN.out (HB1.out W h))
    have HEF := Lib.hid (faults_enter a.T b w1.heap.size)
    have hll : (faultsF a.T b w1.heap.size).length = 4 := rfl
    obtain ⟨L, hL⟩ : ∃ L, faultsF a.T b w1.heap.size = L := ⟨_, rfl⟩
    rw [hL] at r2 HCF HCL HEF hll
    have R2 := Lib.hid r2
    have HLL := Lib.hid hll
    have H2 := Lib.hid (Below.refl w2.heap.size w2)
    clear r2 kb bq HH HB1 hL HFA hz1 hll
    go_wp2_with fail
    go_loopw [20] (fun si wr => ∃ j : Nat, si = .int .i64 j ∧ j ≤ 4 ∧ Hid (∀ i (hi : i < L.length), i < j → L[i].v = false) ∧ Hid (Below w2.heap.size w2 wr)) (fun si _ => 4 - (intOf si).toNat)
    case atStart => exact ⟨0, rfl, by omega, Lib.hid (fun i _ h => absurd h (Nat.not_lt_zero _)), H2⟩
    case round =>
      clear H2
      obtain ⟨j, rfl, hj, HJ, H2⟩ := hrel
      by_cases hlt : j < 4
      · have hd : decide ((j : Int) < 4) = true := by simp; omega
        have hlt2 : j < L.length := by rw [HLL.out]; exact hlt
        have hi0 : (0 : Int) ≤ (j : Int) := by omega
        have hi1 : (j : Int) < 4 := by omega
        obtain ⟨g, o, hA, hg, hc⟩ := (R2.out.below H2.out).at encFl_len hlt2
        have HF1 := Lib.hid (firstFl_false L j hlt2 HJ.out)
        have HM := Lib.hid (List.getElem_mem hlt2)
        have HJ2 := Lib.hid (fun (h : (L[j]'hlt2).v = false) i (hi : i < L.length) (hij : i < j + 1) => show L[i].v = false by
          by_cases e : i = j
          · subst e; exact h
          · exact HJ.out i hi (by omega))
        obtain ⟨x, hx⟩ : ∃ x, L[j]'hlt2 = x := ⟨_, rfl⟩
        rw [hx] at hc HF1 HM HJ2
        have HX := Lib.hid hc
        have HLT := Lib.hid hlt
        have ef := HEF.out x HM.out
        subst hA
        clear hc hx hg HJ hlt2
        obtain ⟨xf, xcb, xe, xv⟩ := x
        go_wp2_with (first
          | ((with_reducible refine at_load 22 ?_); refine tyFl.wpList_load rfl (.tmp 22) rfl g (o + j * 2) rfl ⟨xf, xcb, xe, xv⟩ HX.out ?_)
          | ((with_reducible refine at_store 8 23 ?_); refine tyFlc.wpList_store rfl (.tmp 8) (.tmp 23) rfl rfl wr.heap.size ⟨xf, xcb, xe, xv⟩ rfl rfl 53 _ (Blk.new wr 53 _) rfl ?_; intro w3 o3 b3
             have BE := ((Below.refl wr.heap.size wr).alloc (Nat.le_refl _) _).trans (o3.below (by simp))
             have B3 := Lib.hid (H2.out.trans (BE.mono H2.out.size))
             have X3 := Lib.hid b3
             have kf : w3.cell? ⟨wr.heap.size, 0, none⟩ = some (.func (.func xf) #[] xcb.toArray) := b3.cell 0
             clear o3 b3 BE)
          | ((with_reducible refine at_load 2 ?_); refine tyTx.wpList_load rfl (.tmp 2) rfl w.heap.size 0 rfl a (RowC.of_blk ((HQ.out.call B3.out).at (x := (w.heap.size, 29, a.cells.toArray)) (by simp))) ?_)
          | (go_at_fn xf; refine (HCL.out w3 B3.out _ HM.out).mono ?_; rintro e w4 ⟨rfl, b4⟩
             have X4 := below_blk b4 X3.out X3.out.lt
             have ke : w4.cell? ⟨wr.heap.size, 1, none⟩ = some (.int .i64 xe) := X4.cell 1
             have B4 := Lib.hid (B3.out.trans (b4.mono B3.out.size))
             clear b4 X4 kf
             cases xv))
        · go_roundw
          case rel => exact ⟨j + 1, by go_num, HLT.out, Lib.hid (HJ2.out (by simp)), B4⟩
          case measure => have := HLT.out; simp [intOf]; omega
        · go_ret
          refine ⟨?_, (HQ.out.call B4.out).below⟩
          have h1 : firstFl L = xe := by have h := HF1.out; simpa using h
          rw [← HC.out, HCF.out, h1]
          rfl
      · have hd : decide ((j : Int) < 4) = false := by simp; omega
        have HF0 := Lib.hid (firstFl_none L (fun i hi => HJ.out i hi (by have := HLL.out; omega)))
        go_wp2_with fail
        go_ret
        refine ⟨?_, (HQ.out.call H2.out).below⟩
        rw [← HC.out, HCF.out, HF0.out]
        rfl
  · have hz1 : (er != 0) = true := by simpa using h0
    have HCE := Lib.hid (show ck = er by rw [← HC.out]; unfold checkF; rw [HE.out, if_pos h0])
    clear h0
    go_wp2_with fail
    go_ret
    exact ⟨by rw [HCE.out]; rfl, HH.out.below⟩
theorem pPoints_c : PointsOk := fun A c l w hl hn => chPoints_g A c l w hl (by omega)
end Go.Proofs.Yticphjnabecanaa
