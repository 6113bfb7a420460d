/- TxCoinbase: a coinbase has one input, of nothing; with one more, or of something, it is none: the statement's walk. -/
import Derived.Test.YtgcopgnkfokphaaTxK
import Derived.Test.YtgcopgnkfokphaaRowK3
namespace Go.Proofs.Ytgcopgnkfokphaa
open Go.RowKit
theorem at_storeC {P : Program} {ops : Array Oper} {rest : List Oper} {a : Act} {w : World} {Q : Exit → Act → World → Prop} {ty ty0 : TypeId} {v : Value} {pos : String} {after : Array Edge} (i : Nat)
    (h : wpList P ops Q ({ dst := none, op := .store ty (.tmp i) (.const v), type := ty0, pos := pos, after := after, guard := none } :: rest) a w) :
    wpList P ops Q ({ dst := none, op := .store ty (.tmp i) (.const v), type := ty0, pos := pos, after := after, guard := none } :: rest) a w := h
def TxA.withIns (a : TxA) (l : List (K32 × IntV .u32)) (A : Option Addr) (c : Nat) : TxA := { a with T := { a.T with ins := l }, Ai := A, ci := c }
theorem TxA.set_ins (a : TxA) (l : List (K32 × IntV .u32)) (A : Option Addr) (c : Nat) : a.cells.toArray.setIfInBounds 1 (.slice A l.length c) = (a.withIns l A c).cells.toArray := tx_set_ins l A c
theorem TxA.withIns_in {a : TxA} {w : World} {B : Nat} (h : a.In w B) {l : List (K32 × IntV .u32)} {A : Option Addr} {c : Nat} (hl : RowIn (encKI .u32) 33 w B A c l) : (a.withIns l A c).In w B := ⟨hl, h.outs, h.nulls, h.notes⟩
theorem cellsOf_pts (l : List (K32 × IntV .u32)) : (cellsOf (encKI .u32) l).length = l.length * 33 := cellsOf_len (encKI_len _) l
set_option maxRecDepth 20000 in
set_option maxHeartbeats 4000000 in
theorem txcoin_walk (a : TxA) (p : K32 × IntV .u32) (w : World) (h : a.In w w.heap.size) :
    Calls Try.prog 7 #[.agg a.cells.toArray, .agg (encKI .u32 p).toArray] w fun e w' => e = .returned (.bool true) ∧ Below w.heap.size w w' := by
  have B0 : Below w.heap.size w ((w.alloc (.cells a.cells.toArray 30)).alloc (.cells (encKI .u32 p).toArray 44)) := ((Below.refl _ _).alloc (Nat.le_refl _) _).alloc (by simp) _
  have KT := Lib.hid (show Blk ((w.alloc (.cells a.cells.toArray 30)).alloc (.cells (encKI .u32 p).toArray 44)) w.heap.size 30 a.cells.toArray from (Blk.new _ _ _).alloc _)
  have KP := Lib.hid (show Blk ((w.alloc (.cells a.cells.toArray 30)).alloc (.cells (encKI .u32 p).toArray 44)) (w.heap.size + 1) 44 (encKI .u32 p).toArray from blk_new _ _ (by simp))
  have HIn := Lib.hid h
  clear h
  go_enter Try.func7, Try.ntmps7
  go_wp2_with ((with_reducible refine at_load 2 ?_); refine tyTx.wpList_load rfl (.tmp 2) rfl w.heap.size 0 rfl a (by simpa using RowC.of_blk KT.out) ?_)
  refine (heavyA_any a _).mono ?_
  rintro e w1 ⟨rfl, b1⟩
  have B1 := B0.trans (b1.mono B0.size)
  replace KT := Lib.hid (below_blk b1 KT.out KT.out.lt)
  replace KP := Lib.hid (below_blk b1 KP.out KP.out.lt)
  clear b1 B0
  by_cases hh : heavyF a.T = true
  · rw [hh]
    clear hh
    go_wp2_with fail
    refine (shown_any _).mono ?_
    rintro e w2 ⟨rfl, b2⟩
    have B2 := B1.trans (b2.mono B1.size)
    go_wp2
    go_ret
    exact ⟨rfl, B2⟩
  rw [show heavyF a.T = false by simpa using hh]
  clear hh
  go_wp2_with fail
  refine (shown_any _).mono ?_
  rintro e w2 ⟨rfl, b2⟩
  have B2 := B1.trans (b2.mono B1.size)
  replace KT := Lib.hid (below_blk b2 KT.out KT.out.lt)
  replace KP := Lib.hid (below_blk b2 KP.out KP.out.lt)
  have s2 : w.heap.size + 1 < w2.heap.size := KP.out.lt
  clear b2 B1
  have cp : w2.cell? ⟨w.heap.size + 1, 32, none⟩ = some (.int .u32 p.2.1) := by simpa using (RowC.of_blk KP.out).ki_int
  have B2 := Lib.hid B2
  go_wp2_with (first
    | ((with_reducible refine at_build 17 ?_); refine wpList_built rfl 44 _ rfl (encKI .u32 (zeroKey, p.2)).toArray (by kernel_rfl) ?_; simp only [Act.put, List.setIfInBounds_toArray, List.set_cons_succ, List.set_cons_zero])
    | ((with_reducible refine at_build 21 ?_); refine wpList_built rfl 44 _ rfl (encKI .u32 (zeroKey, txZero.exp)).toArray (by kernel_rfl) ?_; simp only [Act.put, List.setIfInBounds_toArray, List.set_cons_succ, List.set_cons_zero])
    | ((with_reducible refine at_load 3 ?_); refine tyPt.wpList_load rfl (.tmp 3) rfl (w.heap.size + 1) 0 rfl p (by simpa using RowC.of_blk KP.out) ?_; simp only [Act.put, List.setIfInBounds_toArray, List.set_cons_succ, List.set_cons_zero])
    | ((with_reducible refine at_load 2 ?_); refine tyTx.wpList_load rfl (.tmp 2) rfl w.heap.size 0 rfl (a.withIns [(zeroKey, p.2)] (some ⟨w2.heap.size, 0, none⟩) 1) (by simpa using RowC.of_blk KT.out) ?_)
    | ((with_reducible refine at_buildSlice 18 ?_); refine tyPt.wpList_build rfl (by kernel_rfl) 1 _ rfl [(zeroKey, p.2)] rfl (by omega) (by omega) (by kernel_rfl) ?_)
    | ((with_reducible refine at_store 19 18 ?_); refine wpList_store_cell rfl 24 (.tmp 19) (.tmp 18) rfl rfl w.heap.size 1 (.slice (some ⟨w2.heap.size, 0, none⟩) 1 1) rfl rfl rfl 30 a.cells.toArray (KT.out.alloc (.cells (cellsOf (encKI .u32) [(zeroKey, p.2)]).toArray 44)) (by rw [tyTx.arr]; omega) (by kernel_rfl) ?_; intro w3 o3 b3
       replace KT := Lib.hid (show Blk w3 w.heap.size 30 (a.withIns [(zeroKey, p.2)] (some ⟨w2.heap.size, 0, none⟩) 1).cells.toArray from by rw [show (a.withIns [(zeroKey, p.2)] (some ⟨w2.heap.size, 0, none⟩) 1) = a.withIns [(zeroKey, p.2)] (some ⟨w2.heap.size, 0, none⟩) 1 from rfl, ← TxA.set_ins]; exact b3)
       replace KP := Lib.hid (o3.blk (KP.out.alloc (.cells (cellsOf (encKI .u32) [(zeroKey, p.2)]).toArray 44)) (by simp; try omega))
       have KL1 := Lib.hid (o3.blk (Blk.new w2 44 (cellsOf (encKI .u32) [(zeroKey, p.2)]).toArray) (by simp; try omega))
       have B3 := Lib.hid ((B2.out.alloc B2.out.size (.cells (cellsOf (encKI .u32) [(zeroKey, p.2)]).toArray 44)).trans (o3.below (by simp; try omega)))
       have s3 : w2.heap.size < w3.heap.size := by rw [o3.size]; simp
       clear b3 o3)
    | ((with_reducible refine at_store 5 20 ?_); refine tyTx.wpList_store rfl (.tmp 5) (.tmp 20) rfl rfl w3.heap.size (a.withIns [(zeroKey, p.2)] (some ⟨w2.heap.size, 0, none⟩) 1) rfl rfl 30 _ (Blk.new w3 _ _) rfl ?_; intro w4 o3 b3
       have KU := Lib.hid b3
       replace KT := Lib.hid (o3.blk (KT.out.alloc _) (by simp; try omega))
       replace KP := Lib.hid (o3.blk (KP.out.alloc _) (by simp; try omega))
       replace KL1 := Lib.hid (o3.blk (KL1.out.alloc _) (by simp; try omega))
       have B4 := Lib.hid ((B3.out.alloc B3.out.size _).trans (o3.below (by simp; try omega)))
       have s4 : w3.heap.size < w4.heap.size := by rw [o3.size]; simp
       clear b3 o3)
    | ((with_reducible refine at_buildSlice 23 ?_); refine tyPt.wpList_build rfl (by kernel_rfl) 2 _ rfl [(zeroKey, txZero.exp), p] rfl (by omega) (by omega) (by kernel_rfl) ?_)
    | ((with_reducible refine at_store 24 23 ?_); refine wpList_store_cell rfl 24 (.tmp 24) (.tmp 23) rfl rfl w3.heap.size 1 (.slice (some ⟨w4.heap.size, 0, none⟩) 2 2) rfl rfl rfl 30 (a.withIns [(zeroKey, p.2)] (some ⟨w2.heap.size, 0, none⟩) 1).cells.toArray (KU.out.alloc (.cells (cellsOf (encKI .u32) [(zeroKey, txZero.exp), p]).toArray 44)) (by rw [tyTx.arr]; omega) (by kernel_rfl) ?_; intro w5 o3 b3
       replace KU := Lib.hid (show Blk w5 w3.heap.size 30 (a.withIns [(zeroKey, txZero.exp), p] (some ⟨w4.heap.size, 0, none⟩) 2).cells.toArray from by rw [show (a.withIns [(zeroKey, txZero.exp), p] (some ⟨w4.heap.size, 0, none⟩) 2) = (a.withIns [(zeroKey, p.2)] (some ⟨w2.heap.size, 0, none⟩) 1).withIns [(zeroKey, txZero.exp), p] (some ⟨w4.heap.size, 0, none⟩) 2 from rfl, ← TxA.set_ins]; exact b3)
       replace KT := Lib.hid (o3.blk (KT.out.alloc (.cells (cellsOf (encKI .u32) [(zeroKey, txZero.exp), p]).toArray 44)) (by simp; try omega))
       replace KP := Lib.hid (o3.blk (KP.out.alloc (.cells (cellsOf (encKI .u32) [(zeroKey, txZero.exp), p]).toArray 44)) (by simp; try omega))
       replace KL1 := Lib.hid (o3.blk (KL1.out.alloc (.cells (cellsOf (encKI .u32) [(zeroKey, txZero.exp), p]).toArray 44)) (by simp; try omega))
       have KL2 := Lib.hid (o3.blk (Blk.new w4 44 (cellsOf (encKI .u32) [(zeroKey, txZero.exp), p]).toArray) (by simp; try omega))
       have B5 := Lib.hid ((B4.out.alloc B4.out.size (.cells (cellsOf (encKI .u32) [(zeroKey, txZero.exp), p]).toArray 44)).trans (o3.below (by simp; try omega)))
       have s5 : w4.heap.size < w5.heap.size := by rw [o3.size]; simp
       clear b3 o3)
    | ((with_reducible refine at_store 6 25 ?_); refine tyTx.wpList_store rfl (.tmp 6) (.tmp 25) rfl rfl w5.heap.size (a.withIns [(zeroKey, p.2)] (some ⟨w2.heap.size, 0, none⟩) 1) rfl rfl 30 _ (Blk.new w5 _ _) rfl ?_; intro w6 o3 b3
       have KV := Lib.hid b3
       replace KT := Lib.hid (o3.blk (KT.out.alloc _) (by simp; try omega))
       replace KP := Lib.hid (o3.blk (KP.out.alloc _) (by simp; try omega))
       replace KL1 := Lib.hid (o3.blk (KL1.out.alloc _) (by simp; try omega))
       replace KU := Lib.hid (o3.blk (KU.out.alloc _) (by simp; try omega))
       replace KL2 := Lib.hid (o3.blk (KL2.out.alloc _) (by simp; try omega))
       have B6 := Lib.hid ((B5.out.alloc B5.out.size _).trans (o3.below (by simp; try omega)))
       have s6 : w5.heap.size < w6.heap.size := by rw [o3.size]; simp
       clear b3 o3)
    | ((with_reducible refine at_buildSlice 27 ?_); refine tyPt.wpList_build rfl (by kernel_rfl) 1 _ rfl [p] rfl (by omega) (by omega) (by kernel_rfl) ?_)
    | ((with_reducible refine at_store 28 27 ?_); refine wpList_store_cell rfl 24 (.tmp 28) (.tmp 27) rfl rfl w5.heap.size 1 (.slice (some ⟨w6.heap.size, 0, none⟩) 1 1) rfl rfl rfl 30 (a.withIns [(zeroKey, p.2)] (some ⟨w2.heap.size, 0, none⟩) 1).cells.toArray (KV.out.alloc (.cells (cellsOf (encKI .u32) [p]).toArray 44)) (by rw [tyTx.arr]; omega) (by kernel_rfl) ?_; intro w7 o3 b3
       replace KV := Lib.hid (show Blk w7 w5.heap.size 30 (a.withIns [p] (some ⟨w6.heap.size, 0, none⟩) 1).cells.toArray from by rw [show (a.withIns [p] (some ⟨w6.heap.size, 0, none⟩) 1) = (a.withIns [(zeroKey, p.2)] (some ⟨w2.heap.size, 0, none⟩) 1).withIns [p] (some ⟨w6.heap.size, 0, none⟩) 1 from rfl, ← TxA.set_ins]; exact b3)
       replace KT := Lib.hid (o3.blk (KT.out.alloc (.cells (cellsOf (encKI .u32) [p]).toArray 44)) (by simp; try omega))
       replace KP := Lib.hid (o3.blk (KP.out.alloc (.cells (cellsOf (encKI .u32) [p]).toArray 44)) (by simp; try omega))
       replace KL1 := Lib.hid (o3.blk (KL1.out.alloc (.cells (cellsOf (encKI .u32) [p]).toArray 44)) (by simp; try omega))
       replace KU := Lib.hid (o3.blk (KU.out.alloc (.cells (cellsOf (encKI .u32) [p]).toArray 44)) (by simp; try omega))
       replace KL2 := Lib.hid (o3.blk (KL2.out.alloc (.cells (cellsOf (encKI .u32) [p]).toArray 44)) (by simp; try omega))
       have KL3 := Lib.hid (o3.blk (Blk.new w6 44 (cellsOf (encKI .u32) [p]).toArray) (by simp; try omega))
       have B7 := Lib.hid ((B6.out.alloc B6.out.size (.cells (cellsOf (encKI .u32) [p]).toArray 44)).trans (o3.below (by simp; try omega)))
       have s7 : w6.heap.size < w7.heap.size := by rw [o3.size]; simp
       clear b3 o3)
    | ((with_reducible refine at_store 7 29 ?_); refine tyTx.wpList_store rfl (.tmp 7) (.tmp 29) rfl rfl w7.heap.size (a.withIns [(zeroKey, p.2)] (some ⟨w2.heap.size, 0, none⟩) 1) rfl rfl 30 _ (Blk.new w7 _ _) rfl ?_; intro w8 o3 b3
       have KW := Lib.hid b3
       replace KT := Lib.hid (o3.blk (KT.out.alloc _) (by simp; try omega))
       replace KP := Lib.hid (o3.blk (KP.out.alloc _) (by simp; try omega))
       replace KL1 := Lib.hid (o3.blk (KL1.out.alloc _) (by simp; try omega))
       replace KU := Lib.hid (o3.blk (KU.out.alloc _) (by simp; try omega))
       replace KL2 := Lib.hid (o3.blk (KL2.out.alloc _) (by simp; try omega))
       replace KV := Lib.hid (o3.blk (KV.out.alloc _) (by simp; try omega))
       replace KL3 := Lib.hid (o3.blk (KL3.out.alloc _) (by simp; try omega))
       have B8 := Lib.hid ((B7.out.alloc B7.out.size _).trans (o3.below (by simp; try omega)))
       have s8 : w7.heap.size < w8.heap.size := by rw [o3.size]; simp
       clear b3 o3)
    | ((with_reducible refine at_storeC 30 ?_); refine wpList_store_cell rfl 24 (.tmp 30) (.const (.slice none 0 0)) rfl rfl w7.heap.size 1 (.slice none 0 0) rfl rfl rfl 30 (a.withIns [(zeroKey, p.2)] (some ⟨w2.heap.size, 0, none⟩) 1).cells.toArray KW.out (by rw [tyTx.arr]; omega) (by kernel_rfl) ?_; intro w9 o3 b3
       replace KW := Lib.hid (show Blk w9 w7.heap.size 30 (a.withIns [] none 0).cells.toArray from by rw [show (a.withIns [] none 0) = (a.withIns [(zeroKey, p.2)] (some ⟨w2.heap.size, 0, none⟩) 1).withIns [] none 0 from rfl, ← TxA.set_ins]; exact b3)
       replace KT := Lib.hid (o3.blk KT.out (by simp; try omega))
       replace KP := Lib.hid (o3.blk KP.out (by simp; try omega))
       replace KL1 := Lib.hid (o3.blk KL1.out (by simp; try omega))
       replace KU := Lib.hid (o3.blk KU.out (by simp; try omega))
       replace KL2 := Lib.hid (o3.blk KL2.out (by simp; try omega))
       replace KV := Lib.hid (o3.blk KV.out (by simp; try omega))
       replace KL3 := Lib.hid (o3.blk KL3.out (by simp; try omega))
       have B9 := Lib.hid (B8.out.trans (o3.below (by simp; try omega)))
       have s9 : w8.heap.size ≤ w9.heap.size := by rw [o3.size]; exact Nat.le_refl _
       clear b3 o3)
    )
  have hIn : ∀ (l : List (K32 × IntV .u32)) (A : Option Addr) (c : Nat), RowIn (encKI .u32) 33 w9 w9.heap.size A c l → ∀ w', From w9 w' → (a.withIns l A c).In w' w'.heap.size := fun l A c hr w' hC => (TxA.withIns_in (HIn.out.on B9.out (Nat.le_refl _)) hr).on hC.below (Nat.le_refl _)
  have i0 := hIn _ _ _ ((rowIn_blk (l := [(zeroKey, p.2)]) KL1.out (c := 1) (by simp) (by unfold maxLen; omega)).more (by have := KL1.out.lt; omega))
  have i1 := hIn _ _ _ ((rowIn_blk (l := [(zeroKey, txZero.exp), p]) KL2.out (c := 2) (by simp) (by unfold maxLen; omega)).more (by have := KL2.out.lt; omega))
  have i2 := hIn _ _ _ ((rowIn_blk (l := [p]) KL3.out (c := 1) (by simp) (by unfold maxLen; omega)).more (by have := KL3.out.lt; omega))
  have i3 := hIn [] none 0 (RowIn.nil (Nat.zero_le _))
  have f0 : ∀ w', From w9 w' → RowC w' w.heap.size 0 (a.withIns [(zeroKey, p.2)] (some ⟨w2.heap.size, 0, none⟩) 1).cells := fun w' hC => by simpa using (RowC.of_blk KT.out).below hC.below KT.out.lt
  have f1 : ∀ w', From w9 w' → RowC w' w3.heap.size 0 (a.withIns [(zeroKey, txZero.exp), p] (some ⟨w4.heap.size, 0, none⟩) 2).cells := fun w' hC => by simpa using (RowC.of_blk KU.out).below hC.below KU.out.lt
  have f2 : ∀ w', From w9 w' → RowC w' w5.heap.size 0 (a.withIns [p] (some ⟨w6.heap.size, 0, none⟩) 1).cells := fun w' hC => by simpa using (RowC.of_blk KV.out).below hC.below KV.out.lt
  have f3 : ∀ w', From w9 w' → RowC w' w7.heap.size 0 (a.withIns [] none 0).cells := fun w' hC => by simpa using (RowC.of_blk KW.out).below hC.below KW.out.lt
  have fp : ∀ w', From w9 w' → RowC w' (w.heap.size + 1) 0 (encK p.1) := fun w' hC => ((show RowC w9 (w.heap.size + 1) 0 (encKI .u32 p) by simpa using RowC.of_blk KP.out).ki_key).below hC.below KP.out.lt
  have r0 : coinF (a.withIns [(zeroKey, p.2)] (some ⟨w2.heap.size, 0, none⟩) 1).T = true := by simp [coinF, TxA.withIns]
  have r1 : coinF (a.withIns [(zeroKey, txZero.exp), p] (some ⟨w4.heap.size, 0, none⟩) 2).T = false := by simp [coinF, TxA.withIns]
  have r2 : coinF (a.withIns [p] (some ⟨w6.heap.size, 0, none⟩) 1).T = decide (p.1 = zeroKey) := by simp [coinF, TxA.withIns]
  have r3 : coinF (a.withIns [] none 0).T = false := by simp [coinF, TxA.withIns]
  generalize (a.withIns [(zeroKey, p.2)] (some ⟨w2.heap.size, 0, none⟩) 1) = v0 at *
  generalize (a.withIns [(zeroKey, txZero.exp), p] (some ⟨w4.heap.size, 0, none⟩) 2) = v1 at *
  generalize (a.withIns [p] (some ⟨w6.heap.size, 0, none⟩) 1) = v2 at *
  generalize (a.withIns [] none 0) = v3 at *
  obtain ⟨r, hr⟩ : ∃ r, decide (p.1 = zeroKey) = r := ⟨_, rfl⟩
  rw [hr] at r2
  have HR := Lib.hid hr
  have H0 := Lib.hid (And.intro i0 (And.intro f0 r0))
  have H1 := Lib.hid (And.intro i1 (And.intro f1 r1))
  have H2 := Lib.hid (And.intro i2 (And.intro f2 r2))
  have H3 := Lib.hid (And.intro i3 (And.intro f3 r3))
  have HP := Lib.hid fp
  clear i0 i1 i2 i3 f0 f1 f2 f3 r0 r1 r2 r3 hr fp hIn KL1 KL2 KL3 KT KU KV KW KP
  refine wp_region_from (by kernel_rfl) (by kernel_rfl) ?_
  repeat (first
    | go_big_quiet_skip
    | ((with_reducible refine at_qload 2 ?_); refine tyTx.wpQuiet_load (by rfl) (.tmp 2) rfl (w.heap.size) 0 rfl v0 H0.out.2.1 ?_; simp only [Act.put, List.setIfInBounds_toArray, List.set_cons_succ, List.set_cons_zero])
    | ((with_reducible refine at_qload 5 ?_); refine tyTx.wpQuiet_load (by rfl) (.tmp 5) rfl (w3.heap.size) 0 rfl v1 H1.out.2.1 ?_; simp only [Act.put, List.setIfInBounds_toArray, List.set_cons_succ, List.set_cons_zero])
    | ((with_reducible refine at_qload 6 ?_); refine tyTx.wpQuiet_load (by rfl) (.tmp 6) rfl (w5.heap.size) 0 rfl v2 H2.out.2.1 ?_; simp only [Act.put, List.setIfInBounds_toArray, List.set_cons_succ, List.set_cons_zero])
    | ((with_reducible refine at_qload 7 ?_); refine tyTx.wpQuiet_load (by rfl) (.tmp 7) rfl (w7.heap.size) 0 rfl v3 H3.out.2.1 ?_; simp only [Act.put, List.setIfInBounds_toArray, List.set_cons_succ, List.set_cons_zero])
    | ((with_reducible refine at_qload 41 ?_); refine tyK.wpQuiet_load (by rfl) (.tmp 41) rfl (w.heap.size + 1) 0 rfl p.1 HP.out ?_; simp only [Act.put, List.setIfInBounds_toArray, List.set_cons_succ, List.set_cons_zero])
    | ((with_reducible refine at_qeql 42 43 ?_); refine wpQuiet_eql_row (by rfl) 27 27 (.tmp 42) (.tmp 43) rfl (encK p.1).toArray (encK zeroKey).toArray rfl (congrArg Value.agg lit32k) (by kernel_rfl) r (fun V => (eqK_run _ _ V).trans (by rw [HR.out])) ?_; simp only [Act.put, List.setIfInBounds_toArray, List.set_cons_succ, List.set_cons_zero])
    | (go_big_quiet_want; go_big_quiet_op; refine ⟨_, fun _ _ => by with_reducible rfl, ?_⟩; go_big_quiet_on)
    | go_big_quiet_step ((intro hC; first
        | (go_at_call 16; with_reducible exact (coin_any v0 _ (H0.out.1 _ hC)).mono fun _ _ h => ⟨h.1.trans (by rw [H0.out.2.2]), hC.call h.2⟩)
        | (go_at_call 16; with_reducible exact (coin_any v1 _ (H1.out.1 _ hC)).mono fun _ _ h => ⟨h.1.trans (by rw [H1.out.2.2]), hC.call h.2⟩)
        | (go_at_call 16; with_reducible exact (coin_any v2 _ (H2.out.1 _ hC)).mono fun _ _ h => ⟨h.1.trans (by rw [H2.out.2.2]), hC.call h.2⟩)
        | (go_at_call 16; with_reducible exact (coin_any v3 _ (H3.out.1 _ hC)).mono fun _ _ h => ⟨h.1.trans (by rw [H3.out.2.2]), hC.call h.2⟩)
        | fail)))
  refine wpQuiet_nil ?_
  intro w10 hC
  go_wp2_with fail
  go_ret
  exact ⟨rfl, B9.out.trans (hC.below.mono B9.out.size)⟩
end Go.Proofs.Ytgcopgnkfokphaa
