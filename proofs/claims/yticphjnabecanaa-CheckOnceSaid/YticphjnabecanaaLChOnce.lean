/- CheckOnce's walk. Written by genLCo11.py. -/
import Derived.Test.YticphjnabecanaaLChOnA
namespace Go.Proofs.Yticphjnabecanaa
open Go.RowKit
theorem wf_u8 (z : IntV .u8) : 0 ≤ z.1 ∧ z.1 ≤ 255 := by
  have := z.2
  simp [Lit.wf, IntKind.min, IntKind.max, IntKind.signed, IntKind.bits] at this
  omega
def onL (w : World) (a : TxA) (g5 : Nat) (u : TxA) (g6 : Nat) (v : TxA) : List (Nat × TypeId × Array Value) := [(g6, 29, v.cells.toArray), (g5, 29, u.cells.toArray), (w.heap.size, 29, a.cells.toArray)]
theorem onL_t {w W : World} {a u v : TxA} {g5 g6 : Nat} (h : Holds w (onL w a g5 u g6 v) W) : Blk W w.heap.size 29 a.cells.toArray := h.at (x := (w.heap.size, 29, a.cells.toArray)) (by simp [onL])
theorem onL_u {w W : World} {a u v : TxA} {g5 g6 : Nat} (h : Holds w (onL w a g5 u g6 v) W) : Blk W g5 29 u.cells.toArray := h.at (x := (g5, 29, u.cells.toArray)) (by simp [onL])
theorem onL_v {w W : World} {a u v : TxA} {g5 g6 : Nat} (h : Holds w (onL w a g5 u g6 v) W) : Blk W g6 29 v.cells.toArray := h.at (x := (g6, 29, v.cells.toArray)) (by simp [onL])
theorem on_mod (z : IntV .u8) (n : Nat) (h : 0 < n) : ∃ j : Nat, j < n ∧ z.1.tmod (n : Int) = (j : Int) := by
  have hz := (wf_u8 z).1
  refine ⟨(z.1.tmod (n : Int)).toNat, ?_, ?_⟩
  · have h1 := Int.tmod_lt_of_pos z.1 (show (0 : Int) < n by omega)
    have h2 := Int.tmod_nonneg (n : Int) hz
    omega
  · have h2 := Int.tmod_nonneg (n : Int) hz
    omega
structure OnS (w : World) (a : TxA) (g o : Nat) (r : List Value) (V : World) : Prop where
  t : RowC V w.heap.size 0 a.cells
  x : RowC V g o r
def onI (a : TxA) (l : List PtC) (A : Option Addr) (c : Nat) : TxA := { a with T := { a.T with ins := l }, Ai := A, ci := c }
def onN (a : TxA) (l : List K32) (A : Option Addr) (c : Nat) : TxA := { a with T := { a.T with nulls := l }, An := A, cn := c }
theorem onI_set (a : TxA) (l : List PtC) (A : Option Addr) (c : Nat) : a.cells.toArray.setIfInBounds 1 (.slice A l.length c) = (onI a l A c).cells.toArray := tx_set_ins l A c
theorem onN_set (a : TxA) (l : List K32) (A : Option Addr) (c : Nat) : a.cells.toArray.setIfInBounds 35 (.slice A l.length c) = (onN a l A c).cells.toArray := tx_set_nulls l A c
theorem on_row {α : Type} {enc : α → List Value} {k c g : Nat} {w W1 W2 : World} {A : Option Addr} {l : List α} (h : RowIn enc k w w.heap.size A c l) (hA : ∀ g9 o9, A = some ⟨g9, o9, none⟩ → g9 ≠ g) (b : Below w.heap.size w W1) (o : Only [g] W1 W2) : RowIn enc k W2 W2.heap.size A c l :=
  ⟨h.le, h.max, fun hne => by
    obtain ⟨g9, o9, e9, hg9, hc9⟩ := h.cells hne
    refine ⟨g9, o9, e9, by rw [o.size]; exact Nat.lt_of_lt_of_le hg9 b.size, fun i v hi => ?_⟩
    rw [o.cell (by simpa using hA g9 o9 e9)]
    exact (hc9.below b hg9) i v hi⟩
theorem onzsK : ((Try.prog.info? 26).bind (·.zero)).isSome = true := by kernel_rfl
set_option maxRecDepth 20000 in
set_option maxHeartbeats 4000000 in
theorem chOnce_h (HCK : ChkTOk) (HPO : PointsOk) (a : TxA) (z : IntV .u8) (w : World) (ha : a.In w w.heap.size) (hv : heavyF a.T = true) :
    Calls Try.prog 5 #[.agg a.cells.toArray, .int .u8 z.1] w fun e w' => e = .returned (.bool true) ∧ Below w.heap.size w w' := by
  have SH := Lib.hid (fun W => chshown_any HCK HPO W)
  have IA := Lib.hid ha
  have HH := Lib.hid (show Holds w [(w.heap.size, 29, a.cells.toArray)] (w.alloc (.cells a.cells.toArray 29)) from (Holds.nil w).box 29 a.cells.toArray)
  clear ha IA
  go_enter Try.func5, Try.ntmps5
  go_wp2_with ((with_reducible refine at_load 2 ?_); refine tyTx.wpList_load rfl (.tmp 2) rfl (w.heap.size) 0 rfl a (RowC.of_blk (HH.out.at (x := (w.heap.size, 29, a.cells.toArray)) (by simp))) ?_)
  with_reducible refine (chheavy_any a _).mono ?_
  rintro e w1 ⟨rfl, bq⟩
  have HQ := Lib.hid (HH.out.call bq)
  clear bq HH
  have HH := HQ
  clear HQ
  rw [hv]
  go_wp2_with fail
  with_reducible refine (SH.out _).mono ?_
  rintro e w2 ⟨rfl, bq⟩
  have HQ := Lib.hid (HH.out.call bq)
  clear bq HH
  have HH := HQ
  clear HQ
  go_wp2_with fail
  go_ret
  exact ⟨rfl, HH.out.below⟩
set_option maxRecDepth 20000 in
set_option maxHeartbeats 4000000 in
theorem chOnce_m (HCK : ChkTOk) (HPO : PointsOk) (a : TxA) (z : IntV .u8) (w : World) (ha : a.In w w.heap.size) (hv : heavyF a.T = false) :
    Calls Try.prog 5 #[.agg a.cells.toArray, .int .u8 z.1] w fun e w' => e = .returned (.bool true) ∧ Below w.heap.size w w' := by
  have SH := Lib.hid (fun W => chshown_any HCK HPO W)
  have IA := Lib.hid ha
  have HH := Lib.hid (show Holds w [(w.heap.size, 29, a.cells.toArray)] (w.alloc (.cells a.cells.toArray 29)) from (Holds.nil w).box 29 a.cells.toArray)
  have NA := Lib.hid (ch_some hv)
  clear ha
  obtain ⟨c, hc⟩ : ∃ c, checkF a.T false = c := ⟨_, rfl⟩
  have HC := Lib.hid (show ∀ W, a.In W W.heap.size → Calls Try.prog 13 #[.agg a.cells.toArray, .bool false] W fun e w' => e = .returned (.int .i64 c) ∧ Below W.heap.size W w' from fun W h => hc ▸ HCK a false W h NA.out)
  have HC0 := Lib.hid hc
  have NF := Lib.hid (ch_few hv)
  clear hc
  go_enter Try.func5, Try.ntmps5
  go_wp2_with ((with_reducible refine at_load 2 ?_); refine tyTx.wpList_load rfl (.tmp 2) rfl (w.heap.size) 0 rfl a (RowC.of_blk (HH.out.at (x := (w.heap.size, 29, a.cells.toArray)) (by simp))) ?_)
  with_reducible refine (chheavy_any a _).mono ?_
  rintro e w1 ⟨rfl, bq⟩
  have HQ := Lib.hid (HH.out.call bq)
  clear bq HH
  have HH := HQ
  clear HQ
  rw [hv]
  go_wp2_with fail
  with_reducible refine (SH.out _).mono ?_
  rintro e w2 ⟨rfl, bq⟩
  have HQ := Lib.hid (HH.out.call bq)
  clear bq HH
  have HH := HQ
  clear HQ
  go_wp2_with ((with_reducible refine at_load 2 ?_); refine tyTx.wpList_load rfl (.tmp 2) rfl (w.heap.size) 0 rfl a (RowC.of_blk (HH.out.at (x := (w.heap.size, 29, a.cells.toArray)) (by simp))) ?_)
  with_reducible refine (HC.out _ (IA.out.on HH.out.below (Nat.le_refl _))).mono ?_
  rintro e w3 ⟨rfl, bq⟩
  have HQ := Lib.hid (HH.out.call bq)
  clear bq HH
  have HH := HQ
  clear HQ
  clear HC
  by_cases h0 : c = 0
  · subst h0
    go_upto_if 25 with (first
      | ((with_reducible refine at_load 2 ?_); refine tyTx.wpList_load rfl (.tmp 2) rfl (w.heap.size) 0 rfl a (RowC.of_blk (HH.out.at (x := (w.heap.size, 29, a.cells.toArray)) (by simp))) ?_)
      | ((with_reducible refine at_store 5 20 ?_); refine tyTx.wpList_store rfl (.tmp 5) (.tmp 20) rfl rfl w3.heap.size a rfl rfl 29 _ (Blk.new w3 29 _) rfl ?_; intro w4 o4 b4
         have HX := Lib.hid (HH.out.put o4 b4)
         have G3 := Lib.hid (show w.heap.size + 1 ≤ w3.heap.size ∧ w3.heap.size + 1 ≤ w4.heap.size from ⟨(HH.out.at (x := (w.heap.size, 29, a.cells.toArray)) (by simp)).lt, b4.lt⟩)
         clear HH o4 b4)
      | ((with_reducible refine at_load 2 ?_); refine tyTx.wpList_load rfl (.tmp 2) rfl (w.heap.size) 0 rfl a (RowC.of_blk (HX.out.at (x := (w.heap.size, 29, a.cells.toArray)) (by simp))) ?_)
      | ((with_reducible refine at_store 6 21 ?_); refine tyTx.wpList_store rfl (.tmp 6) (.tmp 21) rfl rfl w4.heap.size a rfl rfl 29 _ (Blk.new w4 29 _) rfl ?_; intro w5 o5 b5
         have H5 := Lib.hid (show Holds w (onL w a w3.heap.size a w4.heap.size a) w5 from HX.out.put o5 b5)
         have GG := Lib.hid (show w.heap.size + 1 ≤ w3.heap.size ∧ w3.heap.size + 1 ≤ w4.heap.size ∧ w4.heap.size + 1 ≤ w5.heap.size from ⟨G3.out.1, G3.out.2, b5.lt⟩)
         have k1 := TxA.c1 (RowC.of_blk (onL_t H5.out))
         clear HX o5 b5 G3))
    go_cut [5] from 25 (fun vx wx => vx = .pointer (some ⟨w3.heap.size, 0, none⟩) ∧ Hid (∃ V : TxA, Holds w (onL w a w3.heap.size V w4.heap.size a) wx ∧ V.In wx wx.heap.size ∧ OnR a.T.ins.length V.T.ins.length V.T ∧ (∀ W1 W2, Below wx.heap.size wx W1 → Only [w4.heap.size] W1 W2 → V.In W2 W2.heap.size)))
    case first =>
      by_cases hn : a.T.ins.length = 0
      · have hd : ¬ 0 < a.T.ins.length := by omega
        have HR := Lib.hid (show ∃ V : TxA, Holds w (onL w a w3.heap.size V w4.heap.size a) w5 ∧ V.In w5 w5.heap.size ∧ OnR a.T.ins.length V.T.ins.length V.T ∧ (∀ W1 W2, Below w5.heap.size w5 W1 → Only [w4.heap.size] W1 W2 → V.In W2 W2.heap.size) from ⟨a, H5.out, IA.out.on H5.out.below (Nat.le_refl _), ⟨NA.out, .inl hn⟩, fun W1 W2 b o => IA.out.on (H5.out.below.trans ((b.mono H5.out.below.size).trans (o.below (by have := GG.out; simp; omega)))) (Nat.le_refl _)⟩)
        clear hn
        go_wp2_with fail
        go_meet
        exact ⟨rfl, HR⟩
      · have hd : 0 < a.T.ins.length := by omega
        obtain ⟨j, hj, hjm⟩ := on_mod z a.T.ins.length (by omega)
        obtain ⟨g, o, hA, hg, hc⟩ := IA.out.ins.at (encKI_len _) hj
        obtain ⟨x, hx⟩ : ∃ x, a.T.ins[j] = x := ⟨_, rfl⟩
        rw [hx] at hc
        have HMEM := Lib.hid (show x ∈ a.T.ins from hx ▸ List.getElem_mem hj)
        have HA := Lib.hid hA
        have HG := Lib.hid hg
        have HCX := Lib.hid hc
        have HJ := Lib.hid (And.intro hj hjm)
        clear hn hj hjm hA hg hc hx
        go_wp2_with fail
        clear hd k1
        have HL0 := Lib.hid (show ([] : List PtC).length + a.T.ins.length ≤ 1000000 by have := NF.out; simp; omega)
        have HL1 := Lib.hid (show a.T.ins.length + [x].length ≤ 1000000 by have := NF.out; simp; omega)
        obtain ⟨wd, hwd⟩ : ∃ q, w5.drew = q := ⟨_, rfl⟩
        have HHD := Lib.hid (show Holds w (onL w a w3.heap.size a w4.heap.size a) wd from hwd ▸ ⟨H5.out.below.drew, H5.out.blks⟩)
        have EE := Lib.hid (Below.refl wd.heap.size wd)
        have HWC := Lib.hid (show Below w5.heap.size w5 wd from hwd ▸ (Below.refl _ _).drew)
        have KT := Lib.hid (show ∀ V, Below wd.heap.size wd V → Blk V w.heap.size 29 a.cells.toArray from fun V h => below_blk h (onL_t HHD.out) (onL_t HHD.out).lt)
        have KU := Lib.hid (show ∀ V, Below wd.heap.size wd V → Blk V w3.heap.size 29 a.cells.toArray from fun V h => below_blk h (onL_u HHD.out) (onL_u HHD.out).lt)
        have SW := Lib.hid (show ∀ V, Below wd.heap.size wd V → OnS w a g (o + j * 33) ((encKI .u32) x) V from fun V h => ⟨RowC.of_blk (KT.out V h), (HCX.out.below HHD.out.below HG.out).below h (Nat.lt_of_lt_of_le HG.out HHD.out.below.size)⟩)
        have RS := Lib.hid (show ∀ V, Below wd.heap.size wd V → RowIn (encKI .u32) 33 V wd.heap.size a.Ai a.ci a.T.ins from fun V h => (IA.out.ins.below HHD.out.below).more HHD.out.below.size |>.below h)
        refine wp_region_held_drew (S := OnS w a g (o + j * 33) ((encKI .u32) x)) (by kernel_rfl) (hwd ▸ SW.out wd EE.out) ?_
        intro hS
        rw [hwd] at hS ⊢
        clear hwd H5
        have hA := HA.out
        have hj0 : (0 : Int) ≤ (j : Int) := by omega
        have hj1 : (j : Int) < (a.T.ins.length : Int) := by have := HJ.out.1; omega
        have hjm := HJ.out.2
        have hjz : ((a.T.ins.length : Int) == 0) = false := beq_eq_false_iff_ne.mpr (by have := HJ.out.1; omega)
        have hnil : ¬ a.T.ins = [] := by intro q; have := HJ.out.1; rw [q] at this; simp at this
        have hcv : IntKind.i64.wrap z.1 = z.1 := by have := wf_u8 z; rw [IntKind.wrap_i64]; omega
        refine wpAnyH_take (i := 1) (v := .pointer (some ⟨w.heap.size, 1, none⟩)) rfl (by kernel_rfl) (by kernel_rfl) (by kernel_rfl) (fun _ _ _ h => h) (Or.inl ⟨by rfl, fun W _ => by go_simp; try with_reducible rfl⟩) hS ?_
        simp only [Act.put, List.getElem_toArray, List.getElem_cons_zero, List.getElem_cons_succ, List.setIfInBounds_toArray, List.set_cons_succ, List.set_cons_zero]
        refine wpAnyH_take (i := 2) (v := .slice a.Ai a.T.ins.length a.ci) rfl (by kernel_rfl) (by kernel_rfl) (by kernel_rfl) (fun _ _ _ h => h) (yieldsIf_cell (by rfl) 23 (.tmp 27) rfl ⟨w.heap.size, 1, none⟩ rfl _ Try.isAgg23 (fun _ h => TxA.c1 h.t)) hS ?_
        simp only [Act.put, List.getElem_toArray, List.getElem_cons_zero, List.getElem_cons_succ, List.setIfInBounds_toArray, List.set_cons_succ, List.set_cons_zero]
        refine wpAnyH_take (i := 4) (v := .pointer (some ⟨w.heap.size, 1, none⟩)) rfl (by kernel_rfl) (by kernel_rfl) (by kernel_rfl) (fun _ _ _ h => h) (Or.inl ⟨by rfl, fun W _ => by go_simp; try with_reducible rfl⟩) hS ?_
        simp only [Act.put, List.getElem_toArray, List.getElem_cons_zero, List.getElem_cons_succ, List.setIfInBounds_toArray, List.set_cons_succ, List.set_cons_zero]
        refine wpAnyH_take (i := 5) (v := .slice a.Ai a.T.ins.length a.ci) rfl (by kernel_rfl) (by kernel_rfl) (by kernel_rfl) (fun _ _ _ h => h) (yieldsIf_cell (by rfl) 23 (.tmp 30) rfl ⟨w.heap.size, 1, none⟩ rfl _ Try.isAgg23 (fun _ h => TxA.c1 h.t)) hS ?_
        simp only [Act.put, List.getElem_toArray, List.getElem_cons_zero, List.getElem_cons_succ, List.setIfInBounds_toArray, List.set_cons_succ, List.set_cons_zero]
        refine wpAnyH_take (i := 6) (v := .int .u8 z.1) rfl (by kernel_rfl) (by kernel_rfl) (by kernel_rfl) (fun _ _ _ h => h) (Or.inl ⟨by rfl, fun W _ => by go_simp; try with_reducible rfl⟩) hS ?_
        simp only [Act.put, List.getElem_toArray, List.getElem_cons_zero, List.getElem_cons_succ, List.setIfInBounds_toArray, List.set_cons_succ, List.set_cons_zero]
        refine wpAnyH_take (i := 7) (v := .int .i64 z.1) rfl (by kernel_rfl) (by kernel_rfl) (by kernel_rfl) (fun _ _ _ h => h) (Or.inl ⟨by rfl, fun W _ => by go_simp; try with_reducible rfl⟩) hS ?_
        simp only [Act.put, List.getElem_toArray, List.getElem_cons_zero, List.getElem_cons_succ, List.setIfInBounds_toArray, List.set_cons_succ, List.set_cons_zero]
        refine wpAnyH_take (i := 8) (v := .pointer (some ⟨w.heap.size, 1, none⟩)) rfl (by kernel_rfl) (by kernel_rfl) (by kernel_rfl) (fun _ _ _ h => h) (Or.inl ⟨by rfl, fun W _ => by go_simp; try with_reducible rfl⟩) hS ?_
        simp only [Act.put, List.getElem_toArray, List.getElem_cons_zero, List.getElem_cons_succ, List.setIfInBounds_toArray, List.set_cons_succ, List.set_cons_zero]
        refine wpAnyH_take (i := 9) (v := .slice a.Ai a.T.ins.length a.ci) rfl (by kernel_rfl) (by kernel_rfl) (by kernel_rfl) (fun _ _ _ h => h) (yieldsIf_cell (by rfl) 23 (.tmp 34) rfl ⟨w.heap.size, 1, none⟩ rfl _ Try.isAgg23 (fun _ h => TxA.c1 h.t)) hS ?_
        simp only [Act.put, List.getElem_toArray, List.getElem_cons_zero, List.getElem_cons_succ, List.setIfInBounds_toArray, List.set_cons_succ, List.set_cons_zero]
        refine wpAnyH_take (i := 10) (v := .int .i64 (a.T.ins.length : Int)) rfl (by kernel_rfl) (by kernel_rfl) (by kernel_rfl) (fun _ _ _ h => h) (Or.inl ⟨by rfl, fun W _ => by go_simp; try with_reducible rfl⟩) hS ?_
        simp only [Act.put, List.getElem_toArray, List.getElem_cons_zero, List.getElem_cons_succ, List.setIfInBounds_toArray, List.set_cons_succ, List.set_cons_zero]
        refine wpAnyH_take (i := 11) (v := .int .i64 (j : Int)) rfl (by kernel_rfl) (by kernel_rfl) (by kernel_rfl) (fun _ _ _ h => h) (Or.inl ⟨by rfl, fun W _ => by go_simp; try with_reducible rfl; try exact hnil⟩) hS ?_
        simp only [Act.put, List.getElem_toArray, List.getElem_cons_zero, List.getElem_cons_succ, List.setIfInBounds_toArray, List.set_cons_succ, List.set_cons_zero]
        refine wpAnyH_take (i := 12) (v := .pointer (some ⟨g, o + j * 33, none⟩)) rfl (by kernel_rfl) (by kernel_rfl) (by kernel_rfl) (fun _ _ _ h => h) (Or.inl ⟨by rfl, fun W _ => by go_simp; try with_reducible rfl⟩) hS ?_
        simp only [Act.put, List.getElem_toArray, List.getElem_cons_zero, List.getElem_cons_succ, List.setIfInBounds_toArray, List.set_cons_succ, List.set_cons_zero]
        clear hA hj0 hj1 hjm hjz hcv hnil
        refine wpAnyH_take (i := 13) (v := .agg ((encKI .u32) x).toArray) rfl (by kernel_rfl) (by kernel_rfl) (by kernel_rfl) (fun _ _ _ h => h) (tyPt.yieldsIf_load (by rfl) (.tmp 38) rfl g (o + j * 33) rfl x (fun _ h => h.x)) hS ?_
        simp only [Act.put, List.getElem_toArray, List.getElem_cons_zero, List.getElem_cons_succ, List.setIfInBounds_toArray, List.set_cons_succ, List.set_cons_zero]
        refine wpAnyH_ready (rs := [0, 14]) (by kernel_rfl) (by simp) ?_
        refine AllReadyH.cons rfl (fun Kq hK => ?_) (AllReadyH.cons rfl (fun Kq hK => ?_) (AllReadyH.nil))
        · go_simp
          have q0 := aa_nil (base := wd.heap.size) (k := 33) (Blk.new (wd) 40 #[]) EE.out.size
          have O0 := Lib.hid q0
          clear q0
          have EE2 := Lib.hid (EE.out.trans (show Below wd.heap.size (wd) ((wd).alloc (.cells #[] 40)) from (Below.refl wd.heap.size (wd)).alloc EE.out.size _))
          clear EE
          have EE := EE2
          clear EE2
          refine hK.out _ _ (SW.out _ EE.out) (fun hS => ?_)
          clear hK Kq
          try simp only [Act.put, List.getElem_toArray, List.getElem_cons_zero, List.getElem_cons_succ, List.setIfInBounds_toArray, List.set_cons_succ, List.set_cons_zero]
          refine wpAnyH_ready (rs := [3, 14]) (by kernel_rfl) (by simp) ?_
          refine AllReadyH.cons rfl (fun Kq hK => ?_) (AllReadyH.cons rfl (fun Kq hK => ?_) (AllReadyH.nil))
          · refine tyPt.step_append rfl zcPt 36 zbPt (by omega) (.tmp 26) (.tmp 28) rfl wd.heap.size _ ([] : List PtC) rfl O0.out _ a.Ai a.ci a.T.ins rfl (RS.out _ EE.out) HL0.out EE.out.size ?_
            intro v3 y3 p3 g3
            have e3 := aa_grown O0.out g3 EE.out.size
            have O3 := Lib.hid (aa_congr p3 (List.nil_append _))
            clear O0 p3 g3
            have EE2 := Lib.hid (EE.out.trans (show Below wd.heap.size ((wd).alloc (.cells #[] 40)) (y3) from e3))
            clear EE
            have EE := EE2
            clear EE2
            refine hK.out _ _ (SW.out _ EE.out) (fun hS => ?_)
            clear hK Kq
            try simp only [Act.put, List.getElem_toArray, List.getElem_cons_zero, List.getElem_cons_succ, List.setIfInBounds_toArray, List.set_cons_succ, List.set_cons_zero]
            clear e3
            refine wpAnyH_ready (rs := [14]) (by kernel_rfl) (by simp) ?_
            refine AllReadyH.cons rfl (fun Kq hK => ?_) AllReadyH.nil
            refine tyPt.step_build rfl zsPt 1 _ rfl [x] rfl (by omega) (by omega) (by kernel_rfl) ?_
            have f5 := Lib.hid (Blk.new (y3) 40 (cellsOf (encKI .u32) [x]).toArray)
            have O9 := Lib.hid (O3.out.alloc (.cells (cellsOf (encKI .u32) [x]).toArray 40))
            clear O3
            have O3 := O9
            clear O9
            have EE2 := Lib.hid (EE.out.trans (show Below wd.heap.size (y3) ((y3).alloc (.cells (cellsOf (encKI .u32) [x]).toArray 40)) from (Below.refl wd.heap.size (y3)).alloc EE.out.size _))
            clear EE
            have EE := EE2
            clear EE2
            refine hK.out _ _ (SW.out _ EE.out) (fun hS => ?_)
            clear hK Kq
            try simp only [Act.put, List.getElem_toArray, List.getElem_cons_zero, List.getElem_cons_succ, List.setIfInBounds_toArray, List.set_cons_succ, List.set_cons_zero]
            refine wpAnyH_ready (rs := [15]) (by kernel_rfl) (by simp) ?_
            refine AllReadyH.cons rfl (fun Kq hK => ?_) AllReadyH.nil
            refine tyPt.step_append rfl zcPt 36 zbPt (by omega) (.tmp 29) (.tmp 40) rfl wd.heap.size _ a.T.ins rfl O3.out _ _ 1 [x] rfl (rowIn_blk f5.out (by simp) (by decide)) HL1.out EE.out.size ?_
            intro v6 y6 p6 g6
            have e6 := aa_grown O3.out g6 EE.out.size
            obtain ⟨A6, c6, rfl⟩ := own_shape p6
            have O6 := Lib.hid p6
            clear O3 p6 g6 f5
            have EE2 := Lib.hid (EE.out.trans (show Below wd.heap.size ((y3).alloc (.cells (cellsOf (encKI .u32) [x]).toArray 40)) (y6) from e6))
            clear EE
            have EE := EE2
            clear EE2
            refine hK.out _ _ (SW.out _ EE.out) (fun hS => ?_)
            clear hK Kq
            try simp only [Act.put, List.getElem_toArray, List.getElem_cons_zero, List.getElem_cons_succ, List.setIfInBounds_toArray, List.set_cons_succ, List.set_cons_zero]
            clear e6
            refine wpAnyH_take (i := 16) (v := .pointer (some ⟨w3.heap.size, 1, none⟩)) rfl (by kernel_rfl) (by kernel_rfl) (by kernel_rfl) (fun _ _ _ h => h) (Or.inl ⟨by rfl, fun W _ => by go_simp; try with_reducible rfl⟩) hS ?_
            simp only [Act.put, List.getElem_toArray, List.getElem_cons_zero, List.getElem_cons_succ, List.setIfInBounds_toArray, List.set_cons_succ, List.set_cons_zero]
            refine wpAnyH_ready (rs := [17]) (by kernel_rfl) (by simp) ?_
            refine AllReadyH.cons rfl (fun Kq hK => ?_) AllReadyH.nil
            refine step_store_cell rfl 23 (.tmp 42) (.tmp 41) rfl rfl w3.heap.size 1 (.slice A6 (a.T.ins ++ [x]).length c6) rfl rfl rfl 29 _ (KU.out _ EE.out) (by rw [List.size_toArray, TxA.len]; decide) (by kernel_rfl) ?_
            intro y7 o7 b7
            rw [onI_set] at b7
            have HBE := Lib.hid (HHD.out.below.trans (EE.out.mono HHD.out.below.size))
            have HH7 := Lib.hid (show Holds w (onL w a w3.heap.size (onI a (a.T.ins ++ [x]) A6 c6) w4.heap.size a) y7 from
              ⟨HBE.out.trans (o7.below (by have := GG.out; simp; omega)), fun y hy => by
                have hq := GG.out
                simp only [onL, List.mem_cons, List.not_mem_nil, or_false] at hy
                rcases hy with rfl | rfl | rfl
                · exact o7.blk (onL_v (Holds.low HHD.out EE.out HHD.out.below.size (fun y hy => (HHD.out.blks y hy).lt))) (by simp; omega)
                · exact b7
                · exact o7.blk (KT.out _ EE.out) (by simp; omega)⟩)
            have HI7 := Lib.hid (show (onI a (a.T.ins ++ [x]) A6 c6).In y7 y7.heap.size from by
              obtain ⟨A9, c9, hv9, r9⟩ := RowIn.of_own (encKI_len _) O6.out
              injection hv9 with h1 _ h3
              subst h1 h3
              have I7 := IA.out.on HH7.out.below (Nat.le_refl _)
              have R9 : RowIn (encKI .u32) 33 y7 y7.heap.size A6 c6 (a.T.ins ++ [x]) := ⟨r9.le, r9.max, fun hne => by
                obtain ⟨g9, o9, e9, hg9, hc9⟩ := r9.cells hne
                refine ⟨g9, o9, e9, by rw [o7.size]; exact hg9, fun i v hi => ?_⟩
                have hgb := own_base O6.out g9 (by subst e9; rfl)
                have hlt := (onL_u HHD.out).lt
                rw [o7.cell (by simp; omega)]
                exact hc9 i v hi⟩
              exact ⟨R9, I7.outs, I7.nulls, I7.notes⟩)
            have HCL7 := Lib.hid (show ∀ W1 W2, Below y7.heap.size y7 W1 → Only [w4.heap.size] W1 W2 → (onI a (a.T.ins ++ [x]) A6 c6).In W2 W2.heap.size from fun W1 W2 b o => by
              have I8 := IA.out.on (HH7.out.below.trans ((b.mono HH7.out.below.size).trans (o.below (by have := GG.out; simp; omega)))) (Nat.le_refl _)
              refine ⟨on_row HI7.out.ins (fun g9 o9 e9 => ?_) b o, I8.outs, I8.nulls, I8.notes⟩
              have e8 : A6 = some ⟨g9, o9, none⟩ := e9
              have hgb := own_base O6.out g9 (by subst e8; rfl)
              have hlt := (onL_v HHD.out).lt
              omega)
            have HR7 := Lib.hid (show ∃ V : TxA, Holds w (onL w a w3.heap.size V w4.heap.size a) y7 ∧ V.In y7 y7.heap.size ∧ OnR a.T.ins.length V.T.ins.length V.T ∧ (∀ W1 W2, Below y7.heap.size y7 W1 → Only [w4.heap.size] W1 W2 → V.In W2 W2.heap.size) from ⟨_, HH7.out, HI7.out, ⟨⟨by have := NF.out; show (a.T.ins ++ [x]).length ≤ 120; rw [List.length_append, List.length_singleton]; omega, NA.out.o, NA.out.n, NA.out.t⟩, .inr (by
              have h7 := on_ins HC0.out HMEM.out
              by_cases h40 : 40 < (a.T.ins ++ [x]).length
              · exact .inr ⟨h40, h7.1 h40⟩
              · exact .inl (h7.2 h40))⟩, HCL7.out⟩)
            refine hK.out _ _ ⟨by have h1 := hS.t; have hq := GG.out; exact fun i v hi => (o7.cell (by simp; omega)).trans (h1 i v hi), by have h1 := hS.x; have hq := GG.out; have hg1 := HG.out; exact fun i v hi => (o7.cell (by simp; omega)).trans (h1 i v hi)⟩ (fun hS => ?_)
            clear hK Kq o7 b7 EE O6 hS
            refine wpAnyH_done (by kernel_rfl) ?_ _
            go_wp2_with fail
            go_meet
            exact ⟨rfl, HR7⟩
          · refine tyPt.step_build rfl zsPt 1 _ rfl [x] rfl (by omega) (by omega) (by kernel_rfl) ?_
            have f5 := Lib.hid (Blk.new ((wd).alloc (.cells #[] 40)) 40 (cellsOf (encKI .u32) [x]).toArray)
            have O9 := Lib.hid (O0.out.alloc (.cells (cellsOf (encKI .u32) [x]).toArray 40))
            clear O0
            have O0 := O9
            clear O9
            have EE2 := Lib.hid (EE.out.trans (show Below wd.heap.size ((wd).alloc (.cells #[] 40)) (((wd).alloc (.cells #[] 40)).alloc (.cells (cellsOf (encKI .u32) [x]).toArray 40)) from (Below.refl wd.heap.size ((wd).alloc (.cells #[] 40))).alloc EE.out.size _))
            clear EE
            have EE := EE2
            clear EE2
            refine hK.out _ _ (SW.out _ EE.out) (fun hS => ?_)
            clear hK Kq
            try simp only [Act.put, List.getElem_toArray, List.getElem_cons_zero, List.getElem_cons_succ, List.setIfInBounds_toArray, List.set_cons_succ, List.set_cons_zero]
            refine wpAnyH_ready (rs := [3]) (by kernel_rfl) (by simp) ?_
            refine AllReadyH.cons rfl (fun Kq hK => ?_) AllReadyH.nil
            refine tyPt.step_append rfl zcPt 36 zbPt (by omega) (.tmp 26) (.tmp 28) rfl wd.heap.size _ ([] : List PtC) rfl O0.out _ a.Ai a.ci a.T.ins rfl (RS.out _ EE.out) HL0.out EE.out.size ?_
            intro v3 y3 p3 g3
            have f6 := Lib.hid (blk_grown f5.out g3 (fun e => by have := Option.some.inj e; simp at this <;> omega))
            clear f5
            have f5 := f6
            clear f6
            have e3 := aa_grown O0.out g3 EE.out.size
            have O3 := Lib.hid (aa_congr p3 (List.nil_append _))
            clear O0 p3 g3
            have EE2 := Lib.hid (EE.out.trans (show Below wd.heap.size (((wd).alloc (.cells #[] 40)).alloc (.cells (cellsOf (encKI .u32) [x]).toArray 40)) (y3) from e3))
            clear EE
            have EE := EE2
            clear EE2
            refine hK.out _ _ (SW.out _ EE.out) (fun hS => ?_)
            clear hK Kq
            try simp only [Act.put, List.getElem_toArray, List.getElem_cons_zero, List.getElem_cons_succ, List.setIfInBounds_toArray, List.set_cons_succ, List.set_cons_zero]
            clear e3
            refine wpAnyH_ready (rs := [15]) (by kernel_rfl) (by simp) ?_
            refine AllReadyH.cons rfl (fun Kq hK => ?_) AllReadyH.nil
            refine tyPt.step_append rfl zcPt 36 zbPt (by omega) (.tmp 29) (.tmp 40) rfl wd.heap.size _ a.T.ins rfl O3.out _ _ 1 [x] rfl (rowIn_blk f5.out (by simp) (by decide)) HL1.out EE.out.size ?_
            intro v6 y6 p6 g6
            have e6 := aa_grown O3.out g6 EE.out.size
            obtain ⟨A6, c6, rfl⟩ := own_shape p6
            have O6 := Lib.hid p6
            clear O3 p6 g6 f5
            have EE2 := Lib.hid (EE.out.trans (show Below wd.heap.size (y3) (y6) from e6))
            clear EE
            have EE := EE2
            clear EE2
            refine hK.out _ _ (SW.out _ EE.out) (fun hS => ?_)
            clear hK Kq
            try simp only [Act.put, List.getElem_toArray, List.getElem_cons_zero, List.getElem_cons_succ, List.setIfInBounds_toArray, List.set_cons_succ, List.set_cons_zero]
            clear e6
            refine wpAnyH_take (i := 16) (v := .pointer (some ⟨w3.heap.size, 1, none⟩)) rfl (by kernel_rfl) (by kernel_rfl) (by kernel_rfl) (fun _ _ _ h => h) (Or.inl ⟨by rfl, fun W _ => by go_simp; try with_reducible rfl⟩) hS ?_
            simp only [Act.put, List.getElem_toArray, List.getElem_cons_zero, List.getElem_cons_succ, List.setIfInBounds_toArray, List.set_cons_succ, List.set_cons_zero]
            refine wpAnyH_ready (rs := [17]) (by kernel_rfl) (by simp) ?_
            refine AllReadyH.cons rfl (fun Kq hK => ?_) AllReadyH.nil
            refine step_store_cell rfl 23 (.tmp 42) (.tmp 41) rfl rfl w3.heap.size 1 (.slice A6 (a.T.ins ++ [x]).length c6) rfl rfl rfl 29 _ (KU.out _ EE.out) (by rw [List.size_toArray, TxA.len]; decide) (by kernel_rfl) ?_
            intro y7 o7 b7
            rw [onI_set] at b7
            have HBE := Lib.hid (HHD.out.below.trans (EE.out.mono HHD.out.below.size))
            have HH7 := Lib.hid (show Holds w (onL w a w3.heap.size (onI a (a.T.ins ++ [x]) A6 c6) w4.heap.size a) y7 from
              ⟨HBE.out.trans (o7.below (by have := GG.out; simp; omega)), fun y hy => by
                have hq := GG.out
                simp only [onL, List.mem_cons, List.not_mem_nil, or_false] at hy
                rcases hy with rfl | rfl | rfl
                · exact o7.blk (onL_v (Holds.low HHD.out EE.out HHD.out.below.size (fun y hy => (HHD.out.blks y hy).lt))) (by simp; omega)
                · exact b7
                · exact o7.blk (KT.out _ EE.out) (by simp; omega)⟩)
            have HI7 := Lib.hid (show (onI a (a.T.ins ++ [x]) A6 c6).In y7 y7.heap.size from by
              obtain ⟨A9, c9, hv9, r9⟩ := RowIn.of_own (encKI_len _) O6.out
              injection hv9 with h1 _ h3
              subst h1 h3
              have I7 := IA.out.on HH7.out.below (Nat.le_refl _)
              have R9 : RowIn (encKI .u32) 33 y7 y7.heap.size A6 c6 (a.T.ins ++ [x]) := ⟨r9.le, r9.max, fun hne => by
                obtain ⟨g9, o9, e9, hg9, hc9⟩ := r9.cells hne
                refine ⟨g9, o9, e9, by rw [o7.size]; exact hg9, fun i v hi => ?_⟩
                have hgb := own_base O6.out g9 (by subst e9; rfl)
                have hlt := (onL_u HHD.out).lt
                rw [o7.cell (by simp; omega)]
                exact hc9 i v hi⟩
              exact ⟨R9, I7.outs, I7.nulls, I7.notes⟩)
            have HCL7 := Lib.hid (show ∀ W1 W2, Below y7.heap.size y7 W1 → Only [w4.heap.size] W1 W2 → (onI a (a.T.ins ++ [x]) A6 c6).In W2 W2.heap.size from fun W1 W2 b o => by
              have I8 := IA.out.on (HH7.out.below.trans ((b.mono HH7.out.below.size).trans (o.below (by have := GG.out; simp; omega)))) (Nat.le_refl _)
              refine ⟨on_row HI7.out.ins (fun g9 o9 e9 => ?_) b o, I8.outs, I8.nulls, I8.notes⟩
              have e8 : A6 = some ⟨g9, o9, none⟩ := e9
              have hgb := own_base O6.out g9 (by subst e8; rfl)
              have hlt := (onL_v HHD.out).lt
              omega)
            have HR7 := Lib.hid (show ∃ V : TxA, Holds w (onL w a w3.heap.size V w4.heap.size a) y7 ∧ V.In y7 y7.heap.size ∧ OnR a.T.ins.length V.T.ins.length V.T ∧ (∀ W1 W2, Below y7.heap.size y7 W1 → Only [w4.heap.size] W1 W2 → V.In W2 W2.heap.size) from ⟨_, HH7.out, HI7.out, ⟨⟨by have := NF.out; show (a.T.ins ++ [x]).length ≤ 120; rw [List.length_append, List.length_singleton]; omega, NA.out.o, NA.out.n, NA.out.t⟩, .inr (by
              have h7 := on_ins HC0.out HMEM.out
              by_cases h40 : 40 < (a.T.ins ++ [x]).length
              · exact .inr ⟨h40, h7.1 h40⟩
              · exact .inl (h7.2 h40))⟩, HCL7.out⟩)
            refine hK.out _ _ ⟨by have h1 := hS.t; have hq := GG.out; exact fun i v hi => (o7.cell (by simp; omega)).trans (h1 i v hi), by have h1 := hS.x; have hq := GG.out; have hg1 := HG.out; exact fun i v hi => (o7.cell (by simp; omega)).trans (h1 i v hi)⟩ (fun hS => ?_)
            clear hK Kq o7 b7 EE O6 hS
            refine wpAnyH_done (by kernel_rfl) ?_ _
            go_wp2_with fail
            go_meet
            exact ⟨rfl, HR7⟩
        · refine tyPt.step_build rfl zsPt 1 _ rfl [x] rfl (by omega) (by omega) (by kernel_rfl) ?_
          have f5 := Lib.hid (Blk.new (wd) 40 (cellsOf (encKI .u32) [x]).toArray)
          have EE2 := Lib.hid (EE.out.trans (show Below wd.heap.size (wd) ((wd).alloc (.cells (cellsOf (encKI .u32) [x]).toArray 40)) from (Below.refl wd.heap.size (wd)).alloc EE.out.size _))
          clear EE
          have EE := EE2
          clear EE2
          refine hK.out _ _ (SW.out _ EE.out) (fun hS => ?_)
          clear hK Kq
          try simp only [Act.put, List.getElem_toArray, List.getElem_cons_zero, List.getElem_cons_succ, List.setIfInBounds_toArray, List.set_cons_succ, List.set_cons_zero]
          refine wpAnyH_ready (rs := [0]) (by kernel_rfl) (by simp) ?_
          refine AllReadyH.cons rfl (fun Kq hK => ?_) AllReadyH.nil
          go_simp
          have q0 := aa_nil (base := wd.heap.size) (k := 33) (Blk.new ((wd).alloc (.cells (cellsOf (encKI .u32) [x]).toArray 40)) 40 #[]) EE.out.size
          simp only [World.size_alloc] at q0
          have O0 := Lib.hid q0
          clear q0
          have f6 := Lib.hid (f5.out.alloc (.cells #[] 40))
          clear f5
          have f5 := f6
          clear f6
          have EE2 := Lib.hid (EE.out.trans (show Below wd.heap.size ((wd).alloc (.cells (cellsOf (encKI .u32) [x]).toArray 40)) (((wd).alloc (.cells (cellsOf (encKI .u32) [x]).toArray 40)).alloc (.cells #[] 40)) from (Below.refl wd.heap.size ((wd).alloc (.cells (cellsOf (encKI .u32) [x]).toArray 40))).alloc EE.out.size _))
          clear EE
          have EE := EE2
          clear EE2
          refine hK.out _ _ (SW.out _ EE.out) (fun hS => ?_)
          clear hK Kq
          try simp only [Act.put, List.getElem_toArray, List.getElem_cons_zero, List.getElem_cons_succ, List.setIfInBounds_toArray, List.set_cons_succ, List.set_cons_zero]
          refine wpAnyH_ready (rs := [3]) (by kernel_rfl) (by simp) ?_
          refine AllReadyH.cons rfl (fun Kq hK => ?_) AllReadyH.nil
          refine tyPt.step_append rfl zcPt 36 zbPt (by omega) (.tmp 26) (.tmp 28) rfl wd.heap.size _ ([] : List PtC) rfl O0.out _ a.Ai a.ci a.T.ins rfl (RS.out _ EE.out) HL0.out EE.out.size ?_
          intro v3 y3 p3 g3
          have f6 := Lib.hid (blk_grown f5.out g3 (fun e => by have := Option.some.inj e; simp at this <;> omega))
          clear f5
          have f5 := f6
          clear f6
          have e3 := aa_grown O0.out g3 EE.out.size
          have O3 := Lib.hid (aa_congr p3 (List.nil_append _))
          clear O0 p3 g3
          have EE2 := Lib.hid (EE.out.trans (show Below wd.heap.size (((wd).alloc (.cells (cellsOf (encKI .u32) [x]).toArray 40)).alloc (.cells #[] 40)) (y3) from e3))
          clear EE
          have EE := EE2
          clear EE2
          refine hK.out _ _ (SW.out _ EE.out) (fun hS => ?_)
          clear hK Kq
          try simp only [Act.put, List.getElem_toArray, List.getElem_cons_zero, List.getElem_cons_succ, List.setIfInBounds_toArray, List.set_cons_succ, List.set_cons_zero]
          clear e3
          refine wpAnyH_ready (rs := [15]) (by kernel_rfl) (by simp) ?_
          refine AllReadyH.cons rfl (fun Kq hK => ?_) AllReadyH.nil
          refine tyPt.step_append rfl zcPt 36 zbPt (by omega) (.tmp 29) (.tmp 40) rfl wd.heap.size _ a.T.ins rfl O3.out _ _ 1 [x] rfl (rowIn_blk f5.out (by simp) (by decide)) HL1.out EE.out.size ?_
          intro v6 y6 p6 g6
          have e6 := aa_grown O3.out g6 EE.out.size
          obtain ⟨A6, c6, rfl⟩ := own_shape p6
          have O6 := Lib.hid p6
          clear O3 p6 g6 f5
          have EE2 := Lib.hid (EE.out.trans (show Below wd.heap.size (y3) (y6) from e6))
          clear EE
          have EE := EE2
          clear EE2
          refine hK.out _ _ (SW.out _ EE.out) (fun hS => ?_)
          clear hK Kq
          try simp only [Act.put, List.getElem_toArray, List.getElem_cons_zero, List.getElem_cons_succ, List.setIfInBounds_toArray, List.set_cons_succ, List.set_cons_zero]
          clear e6
          refine wpAnyH_take (i := 16) (v := .pointer (some ⟨w3.heap.size, 1, none⟩)) rfl (by kernel_rfl) (by kernel_rfl) (by kernel_rfl) (fun _ _ _ h => h) (Or.inl ⟨by rfl, fun W _ => by go_simp; try with_reducible rfl⟩) hS ?_
          simp only [Act.put, List.getElem_toArray, List.getElem_cons_zero, List.getElem_cons_succ, List.setIfInBounds_toArray, List.set_cons_succ, List.set_cons_zero]
          refine wpAnyH_ready (rs := [17]) (by kernel_rfl) (by simp) ?_
          refine AllReadyH.cons rfl (fun Kq hK => ?_) AllReadyH.nil
          refine step_store_cell rfl 23 (.tmp 42) (.tmp 41) rfl rfl w3.heap.size 1 (.slice A6 (a.T.ins ++ [x]).length c6) rfl rfl rfl 29 _ (KU.out _ EE.out) (by rw [List.size_toArray, TxA.len]; decide) (by kernel_rfl) ?_
          intro y7 o7 b7
          rw [onI_set] at b7
          have HBE := Lib.hid (HHD.out.below.trans (EE.out.mono HHD.out.below.size))
          have HH7 := Lib.hid (show Holds w (onL w a w3.heap.size (onI a (a.T.ins ++ [x]) A6 c6) w4.heap.size a) y7 from
            ⟨HBE.out.trans (o7.below (by have := GG.out; simp; omega)), fun y hy => by
              have hq := GG.out
              simp only [onL, List.mem_cons, List.not_mem_nil, or_false] at hy
              rcases hy with rfl | rfl | rfl
              · exact o7.blk (onL_v (Holds.low HHD.out EE.out HHD.out.below.size (fun y hy => (HHD.out.blks y hy).lt))) (by simp; omega)
              · exact b7
              · exact o7.blk (KT.out _ EE.out) (by simp; omega)⟩)
          have HI7 := Lib.hid (show (onI a (a.T.ins ++ [x]) A6 c6).In y7 y7.heap.size from by
            obtain ⟨A9, c9, hv9, r9⟩ := RowIn.of_own (encKI_len _) O6.out
            injection hv9 with h1 _ h3
            subst h1 h3
            have I7 := IA.out.on HH7.out.below (Nat.le_refl _)
            have R9 : RowIn (encKI .u32) 33 y7 y7.heap.size A6 c6 (a.T.ins ++ [x]) := ⟨r9.le, r9.max, fun hne => by
              obtain ⟨g9, o9, e9, hg9, hc9⟩ := r9.cells hne
              refine ⟨g9, o9, e9, by rw [o7.size]; exact hg9, fun i v hi => ?_⟩
              have hgb := own_base O6.out g9 (by subst e9; rfl)
              have hlt := (onL_u HHD.out).lt
              rw [o7.cell (by simp; omega)]
              exact hc9 i v hi⟩
            exact ⟨R9, I7.outs, I7.nulls, I7.notes⟩)
          have HCL7 := Lib.hid (show ∀ W1 W2, Below y7.heap.size y7 W1 → Only [w4.heap.size] W1 W2 → (onI a (a.T.ins ++ [x]) A6 c6).In W2 W2.heap.size from fun W1 W2 b o => by
            have I8 := IA.out.on (HH7.out.below.trans ((b.mono HH7.out.below.size).trans (o.below (by have := GG.out; simp; omega)))) (Nat.le_refl _)
            refine ⟨on_row HI7.out.ins (fun g9 o9 e9 => ?_) b o, I8.outs, I8.nulls, I8.notes⟩
            have e8 : A6 = some ⟨g9, o9, none⟩ := e9
            have hgb := own_base O6.out g9 (by subst e8; rfl)
            have hlt := (onL_v HHD.out).lt
            omega)
          have HR7 := Lib.hid (show ∃ V : TxA, Holds w (onL w a w3.heap.size V w4.heap.size a) y7 ∧ V.In y7 y7.heap.size ∧ OnR a.T.ins.length V.T.ins.length V.T ∧ (∀ W1 W2, Below y7.heap.size y7 W1 → Only [w4.heap.size] W1 W2 → V.In W2 W2.heap.size) from ⟨_, HH7.out, HI7.out, ⟨⟨by have := NF.out; show (a.T.ins ++ [x]).length ≤ 120; rw [List.length_append, List.length_singleton]; omega, NA.out.o, NA.out.n, NA.out.t⟩, .inr (by
            have h7 := on_ins HC0.out HMEM.out
            by_cases h40 : 40 < (a.T.ins ++ [x]).length
            · exact .inr ⟨h40, h7.1 h40⟩
            · exact .inl (h7.2 h40))⟩, HCL7.out⟩)
          refine hK.out _ _ ⟨by have h1 := hS.t; have hq := GG.out; exact fun i v hi => (o7.cell (by simp; omega)).trans (h1 i v hi), by have h1 := hS.x; have hq := GG.out; have hg1 := HG.out; exact fun i v hi => (o7.cell (by simp; omega)).trans (h1 i v hi)⟩ (fun hS => ?_)
          clear hK Kq o7 b7 EE O6 hS
          refine wpAnyH_done (by kernel_rfl) ?_ _
          go_wp2_with fail
          go_meet
          exact ⟨rfl, HR7⟩
    obtain ⟨rfl, HU⟩ := hcut
    clear H5 k1
    obtain ⟨U, hu1, hu2, hu3, hu4⟩ := HU.out
    have CU := Lib.hid hu4
    have H6 := Lib.hid hu1
    have IU := Lib.hid hu2
    have RU := Lib.hid hu3
    have k1 := TxA.c4 (RowC.of_blk (onL_t hu1))
    clear hu1 hu2 hu3 hu4 HU
    go_upto_if 46 with fail
    go_cut [6] from 46 (fun vx wx => vx = .pointer (some ⟨w4.heap.size, 0, none⟩) ∧ Hid (∃ V : TxA, Holds w (onL w a w3.heap.size U w4.heap.size V) wx ∧ V.In wx wx.heap.size ∧ OnR a.T.nulls.length V.T.nulls.length V.T ∧ U.In wx wx.heap.size))
    case first =>
      by_cases hn : a.T.nulls.length = 0
      · have hd : ¬ 0 < a.T.nulls.length := by omega
        have HR := Lib.hid (show ∃ V : TxA, Holds w (onL w a w3.heap.size U w4.heap.size V) wc ∧ V.In wc wc.heap.size ∧ OnR a.T.nulls.length V.T.nulls.length V.T ∧ U.In wc wc.heap.size from ⟨a, H6.out, IA.out.on H6.out.below (Nat.le_refl _), ⟨NA.out, .inl hn⟩, IU.out⟩)
        clear hn
        go_wp2_with fail
        go_meet
        exact ⟨rfl, HR⟩
      · have hd : 0 < a.T.nulls.length := by omega
        obtain ⟨j, hj, hjm⟩ := on_mod z a.T.nulls.length (by omega)
        obtain ⟨g, o, hA, hg, hc⟩ := IA.out.nulls.at (encK_len) hj
        obtain ⟨x, hx⟩ : ∃ x, a.T.nulls[j] = x := ⟨_, rfl⟩
        rw [hx] at hc
        have HMEM := Lib.hid (show x ∈ a.T.nulls from hx ▸ List.getElem_mem hj)
        have HA := Lib.hid hA
        have HG := Lib.hid hg
        have HCX := Lib.hid hc
        have HJ := Lib.hid (And.intro hj hjm)
        clear hn hj hjm hA hg hc hx
        go_wp2_with fail
        clear hd k1
        have HL0 := Lib.hid (show ([] : List K32).length + a.T.nulls.length ≤ 1000000 by have := NF.out; simp; omega)
        have HL1 := Lib.hid (show a.T.nulls.length + [x].length ≤ 1000000 by have := NF.out; simp; omega)
        obtain ⟨wd, hwd⟩ : ∃ q, wc.drew = q := ⟨_, rfl⟩
        have HHD := Lib.hid (show Holds w (onL w a w3.heap.size U w4.heap.size a) wd from hwd ▸ ⟨H6.out.below.drew, H6.out.blks⟩)
        have EE := Lib.hid (Below.refl wd.heap.size wd)
        have HWC := Lib.hid (show Below wc.heap.size wc wd from hwd ▸ (Below.refl _ _).drew)
        have KT := Lib.hid (show ∀ V, Below wd.heap.size wd V → Blk V w.heap.size 29 a.cells.toArray from fun V h => below_blk h (onL_t HHD.out) (onL_t HHD.out).lt)
        have KU := Lib.hid (show ∀ V, Below wd.heap.size wd V → Blk V w4.heap.size 29 a.cells.toArray from fun V h => below_blk h (onL_v HHD.out) (onL_v HHD.out).lt)
        have SW := Lib.hid (show ∀ V, Below wd.heap.size wd V → OnS w a g (o + j * 32) (encK x) V from fun V h => ⟨RowC.of_blk (KT.out V h), (HCX.out.below HHD.out.below HG.out).below h (Nat.lt_of_lt_of_le HG.out HHD.out.below.size)⟩)
        have RS := Lib.hid (show ∀ V, Below wd.heap.size wd V → RowIn encK 32 V wd.heap.size a.An a.cn a.T.nulls from fun V h => (IA.out.nulls.below HHD.out.below).more HHD.out.below.size |>.below h)
        refine wp_region_held_drew (S := OnS w a g (o + j * 32) (encK x)) (by kernel_rfl) (hwd ▸ SW.out wd EE.out) ?_
        intro hS
        rw [hwd] at hS ⊢
        clear hwd H6
        have hA := HA.out
        have hj0 : (0 : Int) ≤ (j : Int) := by omega
        have hj1 : (j : Int) < (a.T.nulls.length : Int) := by have := HJ.out.1; omega
        have hjm := HJ.out.2
        have hjz : ((a.T.nulls.length : Int) == 0) = false := beq_eq_false_iff_ne.mpr (by have := HJ.out.1; omega)
        have hnil : ¬ a.T.nulls = [] := by intro q; have := HJ.out.1; rw [q] at this; simp at this
        have hcv : IntKind.i64.wrap z.1 = z.1 := by have := wf_u8 z; rw [IntKind.wrap_i64]; omega
        refine wpAnyH_take (i := 1) (v := .pointer (some ⟨w.heap.size, 35, none⟩)) rfl (by kernel_rfl) (by kernel_rfl) (by kernel_rfl) (fun _ _ _ h => h) (Or.inl ⟨by rfl, fun W _ => by go_simp; try with_reducible rfl⟩) hS ?_
        simp only [Act.put, List.getElem_toArray, List.getElem_cons_zero, List.getElem_cons_succ, List.setIfInBounds_toArray, List.set_cons_succ, List.set_cons_zero]
        refine wpAnyH_take (i := 2) (v := .slice a.An a.T.nulls.length a.cn) rfl (by kernel_rfl) (by kernel_rfl) (by kernel_rfl) (fun _ _ _ h => h) (yieldsIf_cell (by rfl) 27 (.tmp 48) rfl ⟨w.heap.size, 35, none⟩ rfl _ Try.isAgg27 (fun _ h => TxA.c4 h.t)) hS ?_
        simp only [Act.put, List.getElem_toArray, List.getElem_cons_zero, List.getElem_cons_succ, List.setIfInBounds_toArray, List.set_cons_succ, List.set_cons_zero]
        refine wpAnyH_take (i := 4) (v := .pointer (some ⟨w.heap.size, 35, none⟩)) rfl (by kernel_rfl) (by kernel_rfl) (by kernel_rfl) (fun _ _ _ h => h) (Or.inl ⟨by rfl, fun W _ => by go_simp; try with_reducible rfl⟩) hS ?_
        simp only [Act.put, List.getElem_toArray, List.getElem_cons_zero, List.getElem_cons_succ, List.setIfInBounds_toArray, List.set_cons_succ, List.set_cons_zero]
        refine wpAnyH_take (i := 5) (v := .slice a.An a.T.nulls.length a.cn) rfl (by kernel_rfl) (by kernel_rfl) (by kernel_rfl) (fun _ _ _ h => h) (yieldsIf_cell (by rfl) 27 (.tmp 51) rfl ⟨w.heap.size, 35, none⟩ rfl _ Try.isAgg27 (fun _ h => TxA.c4 h.t)) hS ?_
        simp only [Act.put, List.getElem_toArray, List.getElem_cons_zero, List.getElem_cons_succ, List.setIfInBounds_toArray, List.set_cons_succ, List.set_cons_zero]
        refine wpAnyH_take (i := 6) (v := .int .u8 z.1) rfl (by kernel_rfl) (by kernel_rfl) (by kernel_rfl) (fun _ _ _ h => h) (Or.inl ⟨by rfl, fun W _ => by go_simp; try with_reducible rfl⟩) hS ?_
        simp only [Act.put, List.getElem_toArray, List.getElem_cons_zero, List.getElem_cons_succ, List.setIfInBounds_toArray, List.set_cons_succ, List.set_cons_zero]
        refine wpAnyH_take (i := 7) (v := .int .i64 z.1) rfl (by kernel_rfl) (by kernel_rfl) (by kernel_rfl) (fun _ _ _ h => h) (Or.inl ⟨by rfl, fun W _ => by go_simp; try with_reducible rfl⟩) hS ?_
        simp only [Act.put, List.getElem_toArray, List.getElem_cons_zero, List.getElem_cons_succ, List.setIfInBounds_toArray, List.set_cons_succ, List.set_cons_zero]
        refine wpAnyH_take (i := 8) (v := .pointer (some ⟨w.heap.size, 35, none⟩)) rfl (by kernel_rfl) (by kernel_rfl) (by kernel_rfl) (fun _ _ _ h => h) (Or.inl ⟨by rfl, fun W _ => by go_simp; try with_reducible rfl⟩) hS ?_
        simp only [Act.put, List.getElem_toArray, List.getElem_cons_zero, List.getElem_cons_succ, List.setIfInBounds_toArray, List.set_cons_succ, List.set_cons_zero]
        refine wpAnyH_take (i := 9) (v := .slice a.An a.T.nulls.length a.cn) rfl (by kernel_rfl) (by kernel_rfl) (by kernel_rfl) (fun _ _ _ h => h) (yieldsIf_cell (by rfl) 27 (.tmp 55) rfl ⟨w.heap.size, 35, none⟩ rfl _ Try.isAgg27 (fun _ h => TxA.c4 h.t)) hS ?_
        simp only [Act.put, List.getElem_toArray, List.getElem_cons_zero, List.getElem_cons_succ, List.setIfInBounds_toArray, List.set_cons_succ, List.set_cons_zero]
        refine wpAnyH_take (i := 10) (v := .int .i64 (a.T.nulls.length : Int)) rfl (by kernel_rfl) (by kernel_rfl) (by kernel_rfl) (fun _ _ _ h => h) (Or.inl ⟨by rfl, fun W _ => by go_simp; try with_reducible rfl⟩) hS ?_
        simp only [Act.put, List.getElem_toArray, List.getElem_cons_zero, List.getElem_cons_succ, List.setIfInBounds_toArray, List.set_cons_succ, List.set_cons_zero]
        refine wpAnyH_take (i := 11) (v := .int .i64 (j : Int)) rfl (by kernel_rfl) (by kernel_rfl) (by kernel_rfl) (fun _ _ _ h => h) (Or.inl ⟨by rfl, fun W _ => by go_simp; try with_reducible rfl; try exact hnil⟩) hS ?_
        simp only [Act.put, List.getElem_toArray, List.getElem_cons_zero, List.getElem_cons_succ, List.setIfInBounds_toArray, List.set_cons_succ, List.set_cons_zero]
        refine wpAnyH_take (i := 12) (v := .pointer (some ⟨g, o + j * 32, none⟩)) rfl (by kernel_rfl) (by kernel_rfl) (by kernel_rfl) (fun _ _ _ h => h) (Or.inl ⟨by rfl, fun W _ => by go_simp; try with_reducible rfl⟩) hS ?_
        simp only [Act.put, List.getElem_toArray, List.getElem_cons_zero, List.getElem_cons_succ, List.setIfInBounds_toArray, List.set_cons_succ, List.set_cons_zero]
        clear hA hj0 hj1 hjm hjz hcv hnil
        refine wpAnyH_take (i := 13) (v := .agg (encK x).toArray) rfl (by kernel_rfl) (by kernel_rfl) (by kernel_rfl) (fun _ _ _ h => h) (tyKy.yieldsIf_load (by rfl) (.tmp 59) rfl g (o + j * 32) rfl x (fun _ h => h.x)) hS ?_
        simp only [Act.put, List.getElem_toArray, List.getElem_cons_zero, List.getElem_cons_succ, List.setIfInBounds_toArray, List.set_cons_succ, List.set_cons_zero]
        refine wpAnyH_ready (rs := [0, 14]) (by kernel_rfl) (by simp) ?_
        refine AllReadyH.cons rfl (fun Kq hK => ?_) (AllReadyH.cons rfl (fun Kq hK => ?_) (AllReadyH.nil))
        · go_simp
          have q0 := aa_nil (base := wd.heap.size) (k := 32) (Blk.new (wd) 26 #[]) EE.out.size
          have O0 := Lib.hid q0
          clear q0
          have EE2 := Lib.hid (EE.out.trans (show Below wd.heap.size (wd) ((wd).alloc (.cells #[] 26)) from (Below.refl wd.heap.size (wd)).alloc EE.out.size _))
          clear EE
          have EE := EE2
          clear EE2
          refine hK.out _ _ (SW.out _ EE.out) (fun hS => ?_)
          clear hK Kq
          try simp only [Act.put, List.getElem_toArray, List.getElem_cons_zero, List.getElem_cons_succ, List.setIfInBounds_toArray, List.set_cons_succ, List.set_cons_zero]
          refine wpAnyH_ready (rs := [3, 14]) (by kernel_rfl) (by simp) ?_
          refine AllReadyH.cons rfl (fun Kq hK => ?_) (AllReadyH.cons rfl (fun Kq hK => ?_) (AllReadyH.nil))
          · refine tyKy.step_append rfl zcKy 32 zbKy (by omega) (.tmp 47) (.tmp 49) rfl wd.heap.size _ ([] : List K32) rfl O0.out _ a.An a.cn a.T.nulls rfl (RS.out _ EE.out) HL0.out EE.out.size ?_
            intro v3 y3 p3 g3
            have e3 := aa_grown O0.out g3 EE.out.size
            have O3 := Lib.hid (aa_congr p3 (List.nil_append _))
            clear O0 p3 g3
            have EE2 := Lib.hid (EE.out.trans (show Below wd.heap.size ((wd).alloc (.cells #[] 26)) (y3) from e3))
            clear EE
            have EE := EE2
            clear EE2
            refine hK.out _ _ (SW.out _ EE.out) (fun hS => ?_)
            clear hK Kq
            try simp only [Act.put, List.getElem_toArray, List.getElem_cons_zero, List.getElem_cons_succ, List.setIfInBounds_toArray, List.set_cons_succ, List.set_cons_zero]
            clear e3
            refine wpAnyH_ready (rs := [14]) (by kernel_rfl) (by simp) ?_
            refine AllReadyH.cons rfl (fun Kq hK => ?_) AllReadyH.nil
            refine tyKy.step_build rfl onzsK 1 _ rfl [x] rfl (by omega) (by omega) (by kernel_rfl) ?_
            have f5 := Lib.hid (Blk.new (y3) 26 (cellsOf encK [x]).toArray)
            have O9 := Lib.hid (O3.out.alloc (.cells (cellsOf encK [x]).toArray 26))
            clear O3
            have O3 := O9
            clear O9
            have EE2 := Lib.hid (EE.out.trans (show Below wd.heap.size (y3) ((y3).alloc (.cells (cellsOf encK [x]).toArray 26)) from (Below.refl wd.heap.size (y3)).alloc EE.out.size _))
            clear EE
            have EE := EE2
            clear EE2
            refine hK.out _ _ (SW.out _ EE.out) (fun hS => ?_)
            clear hK Kq
            try simp only [Act.put, List.getElem_toArray, List.getElem_cons_zero, List.getElem_cons_succ, List.setIfInBounds_toArray, List.set_cons_succ, List.set_cons_zero]
            refine wpAnyH_ready (rs := [15]) (by kernel_rfl) (by simp) ?_
            refine AllReadyH.cons rfl (fun Kq hK => ?_) AllReadyH.nil
            refine tyKy.step_append rfl zcKy 32 zbKy (by omega) (.tmp 50) (.tmp 61) rfl wd.heap.size _ a.T.nulls rfl O3.out _ _ 1 [x] rfl (rowIn_blk f5.out (by simp) (by decide)) HL1.out EE.out.size ?_
            intro v6 y6 p6 g6
            have e6 := aa_grown O3.out g6 EE.out.size
            obtain ⟨A6, c6, rfl⟩ := own_shape p6
            have O6 := Lib.hid p6
            clear O3 p6 g6 f5
            have EE2 := Lib.hid (EE.out.trans (show Below wd.heap.size ((y3).alloc (.cells (cellsOf encK [x]).toArray 26)) (y6) from e6))
            clear EE
            have EE := EE2
            clear EE2
            refine hK.out _ _ (SW.out _ EE.out) (fun hS => ?_)
            clear hK Kq
            try simp only [Act.put, List.getElem_toArray, List.getElem_cons_zero, List.getElem_cons_succ, List.setIfInBounds_toArray, List.set_cons_succ, List.set_cons_zero]
            clear e6
            refine wpAnyH_take (i := 16) (v := .pointer (some ⟨w4.heap.size, 35, none⟩)) rfl (by kernel_rfl) (by kernel_rfl) (by kernel_rfl) (fun _ _ _ h => h) (Or.inl ⟨by rfl, fun W _ => by go_simp; try with_reducible rfl⟩) hS ?_
            simp only [Act.put, List.getElem_toArray, List.getElem_cons_zero, List.getElem_cons_succ, List.setIfInBounds_toArray, List.set_cons_succ, List.set_cons_zero]
            refine wpAnyH_ready (rs := [17]) (by kernel_rfl) (by simp) ?_
            refine AllReadyH.cons rfl (fun Kq hK => ?_) AllReadyH.nil
            refine step_store_cell rfl 27 (.tmp 63) (.tmp 62) rfl rfl w4.heap.size 35 (.slice A6 (a.T.nulls ++ [x]).length c6) rfl rfl rfl 29 _ (KU.out _ EE.out) (by rw [List.size_toArray, TxA.len]; decide) (by kernel_rfl) ?_
            intro y7 o7 b7
            rw [onN_set] at b7
            have HBE := Lib.hid (HHD.out.below.trans (EE.out.mono HHD.out.below.size))
            have HH7 := Lib.hid (show Holds w (onL w a w3.heap.size U w4.heap.size (onN a (a.T.nulls ++ [x]) A6 c6)) y7 from
              ⟨HBE.out.trans (o7.below (by have := GG.out; simp; omega)), fun y hy => by
                have hq := GG.out
                simp only [onL, List.mem_cons, List.not_mem_nil, or_false] at hy
                rcases hy with rfl | rfl | rfl
                · exact b7
                · exact o7.blk (onL_u (Holds.low HHD.out EE.out HHD.out.below.size (fun y hy => (HHD.out.blks y hy).lt))) (by simp; omega)
                · exact o7.blk (KT.out _ EE.out) (by simp; omega)⟩)
            have HI7 := Lib.hid (show (onN a (a.T.nulls ++ [x]) A6 c6).In y7 y7.heap.size from by
              obtain ⟨A9, c9, hv9, r9⟩ := RowIn.of_own (encK_len) O6.out
              injection hv9 with h1 _ h3
              subst h1 h3
              have I7 := IA.out.on HH7.out.below (Nat.le_refl _)
              have R9 : RowIn encK 32 y7 y7.heap.size A6 c6 (a.T.nulls ++ [x]) := ⟨r9.le, r9.max, fun hne => by
                obtain ⟨g9, o9, e9, hg9, hc9⟩ := r9.cells hne
                refine ⟨g9, o9, e9, by rw [o7.size]; exact hg9, fun i v hi => ?_⟩
                have hgb := own_base O6.out g9 (by subst e9; rfl)
                have hlt := (onL_v HHD.out).lt
                rw [o7.cell (by simp; omega)]
                exact hc9 i v hi⟩
              exact ⟨I7.ins, I7.outs, R9, I7.notes⟩)
            have HR7 := Lib.hid (show ∃ V : TxA, Holds w (onL w a w3.heap.size U w4.heap.size V) y7 ∧ V.In y7 y7.heap.size ∧ OnR a.T.nulls.length V.T.nulls.length V.T ∧ U.In y7 y7.heap.size from ⟨_, HH7.out, HI7.out, ⟨⟨NA.out.i, NA.out.o, by have := NF.out; show (a.T.nulls ++ [x]).length ≤ 120; rw [List.length_append, List.length_singleton]; omega, NA.out.t⟩, .inr (by
              have h7 := on_nulls HC0.out HMEM.out
              by_cases h40 : 40 < (a.T.nulls ++ [x]).length
              · exact .inr ⟨h40, h7.1 h40⟩
              · exact .inl (h7.2 h40))⟩, CU.out _ _ (HWC.out.trans (EE.out.mono HWC.out.size)) o7⟩)
            refine hK.out _ _ ⟨by have h1 := hS.t; have hq := GG.out; exact fun i v hi => (o7.cell (by simp; omega)).trans (h1 i v hi), by have h1 := hS.x; have hq := GG.out; have hg1 := HG.out; exact fun i v hi => (o7.cell (by simp; omega)).trans (h1 i v hi)⟩ (fun hS => ?_)
            clear hK Kq o7 b7 EE O6 hS
            refine wpAnyH_done (by kernel_rfl) ?_ _
            go_wp2_with fail
            go_meet
            exact ⟨rfl, HR7⟩
          · refine tyKy.step_build rfl onzsK 1 _ rfl [x] rfl (by omega) (by omega) (by kernel_rfl) ?_
            have f5 := Lib.hid (Blk.new ((wd).alloc (.cells #[] 26)) 26 (cellsOf encK [x]).toArray)
            have O9 := Lib.hid (O0.out.alloc (.cells (cellsOf encK [x]).toArray 26))
            clear O0
            have O0 := O9
            clear O9
            have EE2 := Lib.hid (EE.out.trans (show Below wd.heap.size ((wd).alloc (.cells #[] 26)) (((wd).alloc (.cells #[] 26)).alloc (.cells (cellsOf encK [x]).toArray 26)) from (Below.refl wd.heap.size ((wd).alloc (.cells #[] 26))).alloc EE.out.size _))
            clear EE
            have EE := EE2
            clear EE2
            refine hK.out _ _ (SW.out _ EE.out) (fun hS => ?_)
            clear hK Kq
            try simp only [Act.put, List.getElem_toArray, List.getElem_cons_zero, List.getElem_cons_succ, List.setIfInBounds_toArray, List.set_cons_succ, List.set_cons_zero]
            refine wpAnyH_ready (rs := [3]) (by kernel_rfl) (by simp) ?_
            refine AllReadyH.cons rfl (fun Kq hK => ?_) AllReadyH.nil
            refine tyKy.step_append rfl zcKy 32 zbKy (by omega) (.tmp 47) (.tmp 49) rfl wd.heap.size _ ([] : List K32) rfl O0.out _ a.An a.cn a.T.nulls rfl (RS.out _ EE.out) HL0.out EE.out.size ?_
            intro v3 y3 p3 g3
            have f6 := Lib.hid (blk_grown f5.out g3 (fun e => by have := Option.some.inj e; simp at this <;> omega))
            clear f5
            have f5 := f6
            clear f6
            have e3 := aa_grown O0.out g3 EE.out.size
            have O3 := Lib.hid (aa_congr p3 (List.nil_append _))
            clear O0 p3 g3
            have EE2 := Lib.hid (EE.out.trans (show Below wd.heap.size (((wd).alloc (.cells #[] 26)).alloc (.cells (cellsOf encK [x]).toArray 26)) (y3) from e3))
            clear EE
            have EE := EE2
            clear EE2
            refine hK.out _ _ (SW.out _ EE.out) (fun hS => ?_)
            clear hK Kq
            try simp only [Act.put, List.getElem_toArray, List.getElem_cons_zero, List.getElem_cons_succ, List.setIfInBounds_toArray, List.set_cons_succ, List.set_cons_zero]
            clear e3
            refine wpAnyH_ready (rs := [15]) (by kernel_rfl) (by simp) ?_
            refine AllReadyH.cons rfl (fun Kq hK => ?_) AllReadyH.nil
            refine tyKy.step_append rfl zcKy 32 zbKy (by omega) (.tmp 50) (.tmp 61) rfl wd.heap.size _ a.T.nulls rfl O3.out _ _ 1 [x] rfl (rowIn_blk f5.out (by simp) (by decide)) HL1.out EE.out.size ?_
            intro v6 y6 p6 g6
            have e6 := aa_grown O3.out g6 EE.out.size
            obtain ⟨A6, c6, rfl⟩ := own_shape p6
            have O6 := Lib.hid p6
            clear O3 p6 g6 f5
            have EE2 := Lib.hid (EE.out.trans (show Below wd.heap.size (y3) (y6) from e6))
            clear EE
            have EE := EE2
            clear EE2
            refine hK.out _ _ (SW.out _ EE.out) (fun hS => ?_)
            clear hK Kq
            try simp only [Act.put, List.getElem_toArray, List.getElem_cons_zero, List.getElem_cons_succ, List.setIfInBounds_toArray, List.set_cons_succ, List.set_cons_zero]
            clear e6
            refine wpAnyH_take (i := 16) (v := .pointer (some ⟨w4.heap.size, 35, none⟩)) rfl (by kernel_rfl) (by kernel_rfl) (by kernel_rfl) (fun _ _ _ h => h) (Or.inl ⟨by rfl, fun W _ => by go_simp; try with_reducible rfl⟩) hS ?_
            simp only [Act.put, List.getElem_toArray, List.getElem_cons_zero, List.getElem_cons_succ, List.setIfInBounds_toArray, List.set_cons_succ, List.set_cons_zero]
            refine wpAnyH_ready (rs := [17]) (by kernel_rfl) (by simp) ?_
            refine AllReadyH.cons rfl (fun Kq hK => ?_) AllReadyH.nil
            refine step_store_cell rfl 27 (.tmp 63) (.tmp 62) rfl rfl w4.heap.size 35 (.slice A6 (a.T.nulls ++ [x]).length c6) rfl rfl rfl 29 _ (KU.out _ EE.out) (by rw [List.size_toArray, TxA.len]; decide) (by kernel_rfl) ?_
            intro y7 o7 b7
            rw [onN_set] at b7
            have HBE := Lib.hid (HHD.out.below.trans (EE.out.mono HHD.out.below.size))
            have HH7 := Lib.hid (show Holds w (onL w a w3.heap.size U w4.heap.size (onN a (a.T.nulls ++ [x]) A6 c6)) y7 from
              ⟨HBE.out.trans (o7.below (by have := GG.out; simp; omega)), fun y hy => by
                have hq := GG.out
                simp only [onL, List.mem_cons, List.not_mem_nil, or_false] at hy
                rcases hy with rfl | rfl | rfl
                · exact b7
                · exact o7.blk (onL_u (Holds.low HHD.out EE.out HHD.out.below.size (fun y hy => (HHD.out.blks y hy).lt))) (by simp; omega)
                · exact o7.blk (KT.out _ EE.out) (by simp; omega)⟩)
            have HI7 := Lib.hid (show (onN a (a.T.nulls ++ [x]) A6 c6).In y7 y7.heap.size from by
              obtain ⟨A9, c9, hv9, r9⟩ := RowIn.of_own (encK_len) O6.out
              injection hv9 with h1 _ h3
              subst h1 h3
              have I7 := IA.out.on HH7.out.below (Nat.le_refl _)
              have R9 : RowIn encK 32 y7 y7.heap.size A6 c6 (a.T.nulls ++ [x]) := ⟨r9.le, r9.max, fun hne => by
                obtain ⟨g9, o9, e9, hg9, hc9⟩ := r9.cells hne
                refine ⟨g9, o9, e9, by rw [o7.size]; exact hg9, fun i v hi => ?_⟩
                have hgb := own_base O6.out g9 (by subst e9; rfl)
                have hlt := (onL_v HHD.out).lt
                rw [o7.cell (by simp; omega)]
                exact hc9 i v hi⟩
              exact ⟨I7.ins, I7.outs, R9, I7.notes⟩)
            have HR7 := Lib.hid (show ∃ V : TxA, Holds w (onL w a w3.heap.size U w4.heap.size V) y7 ∧ V.In y7 y7.heap.size ∧ OnR a.T.nulls.length V.T.nulls.length V.T ∧ U.In y7 y7.heap.size from ⟨_, HH7.out, HI7.out, ⟨⟨NA.out.i, NA.out.o, by have := NF.out; show (a.T.nulls ++ [x]).length ≤ 120; rw [List.length_append, List.length_singleton]; omega, NA.out.t⟩, .inr (by
              have h7 := on_nulls HC0.out HMEM.out
              by_cases h40 : 40 < (a.T.nulls ++ [x]).length
              · exact .inr ⟨h40, h7.1 h40⟩
              · exact .inl (h7.2 h40))⟩, CU.out _ _ (HWC.out.trans (EE.out.mono HWC.out.size)) o7⟩)
            refine hK.out _ _ ⟨by have h1 := hS.t; have hq := GG.out; exact fun i v hi => (o7.cell (by simp; omega)).trans (h1 i v hi), by have h1 := hS.x; have hq := GG.out; have hg1 := HG.out; exact fun i v hi => (o7.cell (by simp; omega)).trans (h1 i v hi)⟩ (fun hS => ?_)
            clear hK Kq o7 b7 EE O6 hS
            refine wpAnyH_done (by kernel_rfl) ?_ _
            go_wp2_with fail
            go_meet
            exact ⟨rfl, HR7⟩
        · refine tyKy.step_build rfl onzsK 1 _ rfl [x] rfl (by omega) (by omega) (by kernel_rfl) ?_
          have f5 := Lib.hid (Blk.new (wd) 26 (cellsOf encK [x]).toArray)
          have EE2 := Lib.hid (EE.out.trans (show Below wd.heap.size (wd) ((wd).alloc (.cells (cellsOf encK [x]).toArray 26)) from (Below.refl wd.heap.size (wd)).alloc EE.out.size _))
          clear EE
          have EE := EE2
          clear EE2
          refine hK.out _ _ (SW.out _ EE.out) (fun hS => ?_)
          clear hK Kq
          try simp only [Act.put, List.getElem_toArray, List.getElem_cons_zero, List.getElem_cons_succ, List.setIfInBounds_toArray, List.set_cons_succ, List.set_cons_zero]
          refine wpAnyH_ready (rs := [0]) (by kernel_rfl) (by simp) ?_
          refine AllReadyH.cons rfl (fun Kq hK => ?_) AllReadyH.nil
          go_simp
          have q0 := aa_nil (base := wd.heap.size) (k := 32) (Blk.new ((wd).alloc (.cells (cellsOf encK [x]).toArray 26)) 26 #[]) EE.out.size
          simp only [World.size_alloc] at q0
          have O0 := Lib.hid q0
          clear q0
          have f6 := Lib.hid (f5.out.alloc (.cells #[] 26))
          clear f5
          have f5 := f6
          clear f6
          have EE2 := Lib.hid (EE.out.trans (show Below wd.heap.size ((wd).alloc (.cells (cellsOf encK [x]).toArray 26)) (((wd).alloc (.cells (cellsOf encK [x]).toArray 26)).alloc (.cells #[] 26)) from (Below.refl wd.heap.size ((wd).alloc (.cells (cellsOf encK [x]).toArray 26))).alloc EE.out.size _))
          clear EE
          have EE := EE2
          clear EE2
          refine hK.out _ _ (SW.out _ EE.out) (fun hS => ?_)
          clear hK Kq
          try simp only [Act.put, List.getElem_toArray, List.getElem_cons_zero, List.getElem_cons_succ, List.setIfInBounds_toArray, List.set_cons_succ, List.set_cons_zero]
          refine wpAnyH_ready (rs := [3]) (by kernel_rfl) (by simp) ?_
          refine AllReadyH.cons rfl (fun Kq hK => ?_) AllReadyH.nil
          refine tyKy.step_append rfl zcKy 32 zbKy (by omega) (.tmp 47) (.tmp 49) rfl wd.heap.size _ ([] : List K32) rfl O0.out _ a.An a.cn a.T.nulls rfl (RS.out _ EE.out) HL0.out EE.out.size ?_
          intro v3 y3 p3 g3
          have f6 := Lib.hid (blk_grown f5.out g3 (fun e => by have := Option.some.inj e; simp at this <;> omega))
          clear f5
          have f5 := f6
          clear f6
          have e3 := aa_grown O0.out g3 EE.out.size
          have O3 := Lib.hid (aa_congr p3 (List.nil_append _))
          clear O0 p3 g3
          have EE2 := Lib.hid (EE.out.trans (show Below wd.heap.size (((wd).alloc (.cells (cellsOf encK [x]).toArray 26)).alloc (.cells #[] 26)) (y3) from e3))
          clear EE
          have EE := EE2
          clear EE2
          refine hK.out _ _ (SW.out _ EE.out) (fun hS => ?_)
          clear hK Kq
          try simp only [Act.put, List.getElem_toArray, List.getElem_cons_zero, List.getElem_cons_succ, List.setIfInBounds_toArray, List.set_cons_succ, List.set_cons_zero]
          clear e3
          refine wpAnyH_ready (rs := [15]) (by kernel_rfl) (by simp) ?_
          refine AllReadyH.cons rfl (fun Kq hK => ?_) AllReadyH.nil
          refine tyKy.step_append rfl zcKy 32 zbKy (by omega) (.tmp 50) (.tmp 61) rfl wd.heap.size _ a.T.nulls rfl O3.out _ _ 1 [x] rfl (rowIn_blk f5.out (by simp) (by decide)) HL1.out EE.out.size ?_
          intro v6 y6 p6 g6
          have e6 := aa_grown O3.out g6 EE.out.size
          obtain ⟨A6, c6, rfl⟩ := own_shape p6
          have O6 := Lib.hid p6
          clear O3 p6 g6 f5
          have EE2 := Lib.hid (EE.out.trans (show Below wd.heap.size (y3) (y6) from e6))
          clear EE
          have EE := EE2
          clear EE2
          refine hK.out _ _ (SW.out _ EE.out) (fun hS => ?_)
          clear hK Kq
          try simp only [Act.put, List.getElem_toArray, List.getElem_cons_zero, List.getElem_cons_succ, List.setIfInBounds_toArray, List.set_cons_succ, List.set_cons_zero]
          clear e6
          refine wpAnyH_take (i := 16) (v := .pointer (some ⟨w4.heap.size, 35, none⟩)) rfl (by kernel_rfl) (by kernel_rfl) (by kernel_rfl) (fun _ _ _ h => h) (Or.inl ⟨by rfl, fun W _ => by go_simp; try with_reducible rfl⟩) hS ?_
          simp only [Act.put, List.getElem_toArray, List.getElem_cons_zero, List.getElem_cons_succ, List.setIfInBounds_toArray, List.set_cons_succ, List.set_cons_zero]
          refine wpAnyH_ready (rs := [17]) (by kernel_rfl) (by simp) ?_
          refine AllReadyH.cons rfl (fun Kq hK => ?_) AllReadyH.nil
          refine step_store_cell rfl 27 (.tmp 63) (.tmp 62) rfl rfl w4.heap.size 35 (.slice A6 (a.T.nulls ++ [x]).length c6) rfl rfl rfl 29 _ (KU.out _ EE.out) (by rw [List.size_toArray, TxA.len]; decide) (by kernel_rfl) ?_
          intro y7 o7 b7
          rw [onN_set] at b7
          have HBE := Lib.hid (HHD.out.below.trans (EE.out.mono HHD.out.below.size))
          have HH7 := Lib.hid (show Holds w (onL w a w3.heap.size U w4.heap.size (onN a (a.T.nulls ++ [x]) A6 c6)) y7 from
            ⟨HBE.out.trans (o7.below (by have := GG.out; simp; omega)), fun y hy => by
              have hq := GG.out
              simp only [onL, List.mem_cons, List.not_mem_nil, or_false] at hy
              rcases hy with rfl | rfl | rfl
              · exact b7
              · exact o7.blk (onL_u (Holds.low HHD.out EE.out HHD.out.below.size (fun y hy => (HHD.out.blks y hy).lt))) (by simp; omega)
              · exact o7.blk (KT.out _ EE.out) (by simp; omega)⟩)
          have HI7 := Lib.hid (show (onN a (a.T.nulls ++ [x]) A6 c6).In y7 y7.heap.size from by
            obtain ⟨A9, c9, hv9, r9⟩ := RowIn.of_own (encK_len) O6.out
            injection hv9 with h1 _ h3
            subst h1 h3
            have I7 := IA.out.on HH7.out.below (Nat.le_refl _)
            have R9 : RowIn encK 32 y7 y7.heap.size A6 c6 (a.T.nulls ++ [x]) := ⟨r9.le, r9.max, fun hne => by
              obtain ⟨g9, o9, e9, hg9, hc9⟩ := r9.cells hne
              refine ⟨g9, o9, e9, by rw [o7.size]; exact hg9, fun i v hi => ?_⟩
              have hgb := own_base O6.out g9 (by subst e9; rfl)
              have hlt := (onL_v HHD.out).lt
              rw [o7.cell (by simp; omega)]
              exact hc9 i v hi⟩
            exact ⟨I7.ins, I7.outs, R9, I7.notes⟩)
          have HR7 := Lib.hid (show ∃ V : TxA, Holds w (onL w a w3.heap.size U w4.heap.size V) y7 ∧ V.In y7 y7.heap.size ∧ OnR a.T.nulls.length V.T.nulls.length V.T ∧ U.In y7 y7.heap.size from ⟨_, HH7.out, HI7.out, ⟨⟨NA.out.i, NA.out.o, by have := NF.out; show (a.T.nulls ++ [x]).length ≤ 120; rw [List.length_append, List.length_singleton]; omega, NA.out.t⟩, .inr (by
            have h7 := on_nulls HC0.out HMEM.out
            by_cases h40 : 40 < (a.T.nulls ++ [x]).length
            · exact .inr ⟨h40, h7.1 h40⟩
            · exact .inl (h7.2 h40))⟩, CU.out _ _ (HWC.out.trans (EE.out.mono HWC.out.size)) o7⟩)
          refine hK.out _ _ ⟨by have h1 := hS.t; have hq := GG.out; exact fun i v hi => (o7.cell (by simp; omega)).trans (h1 i v hi), by have h1 := hS.x; have hq := GG.out; have hg1 := HG.out; exact fun i v hi => (o7.cell (by simp; omega)).trans (h1 i v hi)⟩ (fun hS => ?_)
          clear hK Kq o7 b7 EE O6 hS
          refine wpAnyH_done (by kernel_rfl) ?_ _
          go_wp2_with fail
          go_meet
          exact ⟨rfl, HR7⟩
    obtain ⟨rfl, HV⟩ := hcut
    obtain ⟨V, hv1, hv2, hv3, hv4⟩ := HV.out
    have H7 := Lib.hid hv1
    have IV := Lib.hid hv2
    have RV := Lib.hid hv3
    clear IU CU H6 k1
    have IU := Lib.hid hv4
    clear hv1 hv2 hv3 hv4 HV
    obtain ⟨cu, hcu⟩ : ∃ q, checkF U.T false = q := ⟨_, rfl⟩
    have KU := Lib.hid (show ∀ W, U.In W W.heap.size → Calls Try.prog 13 #[.agg U.cells.toArray, .bool false] W fun e w' => e = .returned (.int .i64 cu) ∧ Below W.heap.size W w' from fun W h => hcu ▸ HCK U false W h RU.out.1)
    have RU2 := Lib.hid (show a.T.ins.length = 0 ∨ cu = 111 ∨ (40 < U.T.ins.length ∧ cu = 51) from hcu ▸ RU.out.2)
    clear hcu RU
    obtain ⟨cv, hcv⟩ : ∃ q, checkF V.T false = q := ⟨_, rfl⟩
    have KV := Lib.hid (show ∀ W, V.In W W.heap.size → Calls Try.prog 13 #[.agg V.cells.toArray, .bool false] W fun e w' => e = .returned (.int .i64 cv) ∧ Below W.heap.size W w' from fun W h => hcv ▸ HCK V false W h RV.out.1)
    have RV2 := Lib.hid (show a.T.nulls.length = 0 ∨ cv = 111 ∨ (40 < V.T.nulls.length ∧ cv = 51) from hcv ▸ RV.out.2)
    clear hcv RV
    go_wp2_with ((with_reducible refine at_load 5 ?_); refine tyTx.wpList_load rfl (.tmp 5) rfl (w3.heap.size) 0 rfl U (RowC.of_blk (onL_u H7.out)) ?_)
    with_reducible refine (KU.out _ IU.out).mono ?_
    rintro e x1 ⟨rfl, bq⟩
    have H8 := Lib.hid (H7.out.call bq)
    have IV8 := Lib.hid (IV.out.on bq (Nat.le_refl _))
    clear bq H7 IV KU
    go_wp2_with ((with_reducible refine at_load 6 ?_); refine tyTx.wpList_load rfl (.tmp 6) rfl (w4.heap.size) 0 rfl V (RowC.of_blk (onL_v H8.out)) ?_)
    with_reducible refine (KV.out _ IV8.out).mono ?_
    rintro e x2 ⟨rfl, bq⟩
    have H9 := Lib.hid (H8.out.call bq)
    clear bq H8 IV8 KV
    have k1 := TxA.c1 (RowC.of_blk (onL_t H9.out))
    have k4 := TxA.c4 (RowC.of_blk (onL_t H9.out))
    have kU := TxA.c1 (RowC.of_blk (onL_u H9.out))
    have kV := TxA.c4 (RowC.of_blk (onL_v H9.out))
    have C1 := Lib.hid (show Calls Try.prog 13 #[.agg a.cells.toArray, .bool true] x2 fun e w' => e = .returned (.int .i64 112) ∧ Below x2.heap.size x2 w' from on_base HC0.out ▸ HCK a true x2 (IA.out.on H9.out.below (Nat.le_refl _)) NA.out)
    clear HCK
    rcases Classical.em (a.T.ins.length = 0) with hn1 | hn1
    · have e1 : ((a.T.ins.length : Int) == 0) = true := beq_iff_eq.mpr (by omega)
      clear hn1 RU2
      rcases Classical.em (a.T.nulls.length = 0) with hn2 | hn2
      · have e2 : ((a.T.nulls.length : Int) == 0) = true := beq_iff_eq.mpr (by omega)
        clear hn2 RV2
        go_wp2_with ((with_reducible refine at_loadg 2 ?_); refine tyTx.wpList_load (by rfl) (.tmp 2) rfl (w.heap.size) 0 rfl a (RowC.of_blk (onL_t H9.out)) ?_)
        with_reducible refine C1.out.mono ?_
        rintro e x3 ⟨rfl, bq⟩
        have B9 := Lib.hid (H9.out.below.trans (bq.mono H9.out.below.size))
        clear bq
        go_wp2_with fail
        go_ret
        exact ⟨by first | rfl | simp, B9.out⟩
      · have e2 : ((a.T.nulls.length : Int) == 0) = false := beq_eq_false_iff_ne.mpr (by omega)
        rcases RV2.out.resolve_left hn2 with rfl | ⟨hm2, rfl⟩
        · clear hn2 RV2
          go_wp2_with ((with_reducible refine at_loadg 2 ?_); refine tyTx.wpList_load (by rfl) (.tmp 2) rfl (w.heap.size) 0 rfl a (RowC.of_blk (onL_t H9.out)) ?_)
          with_reducible refine C1.out.mono ?_
          rintro e x3 ⟨rfl, bq⟩
          have B9 := Lib.hid (H9.out.below.trans (bq.mono H9.out.below.size))
          clear bq
          go_wp2_with fail
          go_ret
          exact ⟨by first | rfl | simp, B9.out⟩
        · have m2 : decide ((40 : Int) < (V.T.nulls.length : Int)) = true := decide_eq_true (by omega)
          clear hn2 hm2 RV2
          go_wp2_with ((with_reducible refine at_loadg 2 ?_); refine tyTx.wpList_load (by rfl) (.tmp 2) rfl (w.heap.size) 0 rfl a (RowC.of_blk (onL_t H9.out)) ?_)
          with_reducible refine C1.out.mono ?_
          rintro e x3 ⟨rfl, bq⟩
          have B9 := Lib.hid (H9.out.below.trans (bq.mono H9.out.below.size))
          clear bq
          go_wp2_with fail
          go_ret
          exact ⟨by first | rfl | simp, B9.out⟩
    · have e1 : ((a.T.ins.length : Int) == 0) = false := beq_eq_false_iff_ne.mpr (by omega)
      rcases RU2.out.resolve_left hn1 with rfl | ⟨hm1, rfl⟩
      · clear hn1 RU2
        rcases Classical.em (a.T.nulls.length = 0) with hn2 | hn2
        · have e2 : ((a.T.nulls.length : Int) == 0) = true := beq_iff_eq.mpr (by omega)
          clear hn2 RV2
          go_wp2_with ((with_reducible refine at_loadg 2 ?_); refine tyTx.wpList_load (by rfl) (.tmp 2) rfl (w.heap.size) 0 rfl a (RowC.of_blk (onL_t H9.out)) ?_)
          with_reducible refine C1.out.mono ?_
          rintro e x3 ⟨rfl, bq⟩
          have B9 := Lib.hid (H9.out.below.trans (bq.mono H9.out.below.size))
          clear bq
          go_wp2_with fail
          go_ret
          exact ⟨by first | rfl | simp, B9.out⟩
        · have e2 : ((a.T.nulls.length : Int) == 0) = false := beq_eq_false_iff_ne.mpr (by omega)
          rcases RV2.out.resolve_left hn2 with rfl | ⟨hm2, rfl⟩
          · clear hn2 RV2
            go_wp2_with ((with_reducible refine at_loadg 2 ?_); refine tyTx.wpList_load (by rfl) (.tmp 2) rfl (w.heap.size) 0 rfl a (RowC.of_blk (onL_t H9.out)) ?_)
            with_reducible refine C1.out.mono ?_
            rintro e x3 ⟨rfl, bq⟩
            have B9 := Lib.hid (H9.out.below.trans (bq.mono H9.out.below.size))
            clear bq
            go_wp2_with fail
            go_ret
            exact ⟨by first | rfl | simp, B9.out⟩
          · have m2 : decide ((40 : Int) < (V.T.nulls.length : Int)) = true := decide_eq_true (by omega)
            clear hn2 hm2 RV2
            go_wp2_with ((with_reducible refine at_loadg 2 ?_); refine tyTx.wpList_load (by rfl) (.tmp 2) rfl (w.heap.size) 0 rfl a (RowC.of_blk (onL_t H9.out)) ?_)
            with_reducible refine C1.out.mono ?_
            rintro e x3 ⟨rfl, bq⟩
            have B9 := Lib.hid (H9.out.below.trans (bq.mono H9.out.below.size))
            clear bq
            go_wp2_with fail
            go_ret
            exact ⟨by first | rfl | simp, B9.out⟩
      · have m1 : decide ((40 : Int) < (U.T.ins.length : Int)) = true := decide_eq_true (by omega)
        clear hn1 hm1 RU2
        rcases Classical.em (a.T.nulls.length = 0) with hn2 | hn2
        · have e2 : ((a.T.nulls.length : Int) == 0) = true := beq_iff_eq.mpr (by omega)
          clear hn2 RV2
          go_wp2_with ((with_reducible refine at_loadg 2 ?_); refine tyTx.wpList_load (by rfl) (.tmp 2) rfl (w.heap.size) 0 rfl a (RowC.of_blk (onL_t H9.out)) ?_)
          with_reducible refine C1.out.mono ?_
          rintro e x3 ⟨rfl, bq⟩
          have B9 := Lib.hid (H9.out.below.trans (bq.mono H9.out.below.size))
          clear bq
          go_wp2_with fail
          go_ret
          exact ⟨by first | rfl | simp, B9.out⟩
        · have e2 : ((a.T.nulls.length : Int) == 0) = false := beq_eq_false_iff_ne.mpr (by omega)
          rcases RV2.out.resolve_left hn2 with rfl | ⟨hm2, rfl⟩
          · clear hn2 RV2
            go_wp2_with ((with_reducible refine at_loadg 2 ?_); refine tyTx.wpList_load (by rfl) (.tmp 2) rfl (w.heap.size) 0 rfl a (RowC.of_blk (onL_t H9.out)) ?_)
            with_reducible refine C1.out.mono ?_
            rintro e x3 ⟨rfl, bq⟩
            have B9 := Lib.hid (H9.out.below.trans (bq.mono H9.out.below.size))
            clear bq
            go_wp2_with fail
            go_ret
            exact ⟨by first | rfl | simp, B9.out⟩
          · have m2 : decide ((40 : Int) < (V.T.nulls.length : Int)) = true := decide_eq_true (by omega)
            clear hn2 hm2 RV2
            go_wp2_with ((with_reducible refine at_loadg 2 ?_); refine tyTx.wpList_load (by rfl) (.tmp 2) rfl (w.heap.size) 0 rfl a (RowC.of_blk (onL_t H9.out)) ?_)
            with_reducible refine C1.out.mono ?_
            rintro e x3 ⟨rfl, bq⟩
            have B9 := Lib.hid (H9.out.below.trans (bq.mono H9.out.below.size))
            clear bq
            go_wp2_with fail
            go_ret
            exact ⟨by first | rfl | simp, B9.out⟩
  · have hne : (c != 0) = true := by simpa using h0
    go_wp2_with fail
    go_ret
    exact ⟨rfl, HH.out.below⟩
theorem chOnce_walk (HCK : ChkTOk) (HPO : PointsOk) (a : TxA) (z : IntV .u8) (w : World) (ha : a.In w w.heap.size) :
    Calls Try.prog 5 #[.agg a.cells.toArray, .int .u8 z.1] w fun e w' => e = .returned (.bool true) ∧ Below w.heap.size w w' := by
  cases hv : heavyF a.T with
  | true => exact chOnce_h HCK HPO a z w ha hv
  | false => exact chOnce_m HCK HPO a z w ha hv
end Go.Proofs.Yticphjnabecanaa
