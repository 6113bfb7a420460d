/- FeeGrows' walk. Written by genLG.py. -/
import Derived.Test.YtjlgcpdlenkehaaLFee
import Derived.Deep.Cut
import Derived.Deep.CutRange
import Derived.Deep.DeepCutAuto
namespace Go.Proofs.Ytjlgcpdlenkehaa
open Go.RowKit
theorem gset_ins (a : TxA) (l : List (K32 × IntV .u32)) (A : Option Addr) (c : Nat) : a.cells.toArray.setIfInBounds 1 (.slice A l.length c) = (({ a with T := { a.T with ins := l }, Ai := A, ci := c } : TxA)).cells.toArray := tx_set_ins l A c
theorem gset_notes (a : TxA) (l : List K32) (A : Option Addr) (c : Nat) : a.cells.toArray.setIfInBounds 36 (.slice A l.length c) = (({ a with T := { a.T with notes := l }, At := A, ct := c } : TxA)).cells.toArray := tx_set_notes l A c
theorem gown_grown {w w' : World} {base : Nat} {e : TypeId} {size n : Nat} {v : Value} {xs : List Value} (h : w.ownsRow base e size v n xs) (hg : w.grownBy w' v.ownBlock) (hB : base ≤ w.heap.size) : Below base w w' := (Below.refl _ _).grown hg hB (own_base h)
theorem gown_congr {α : Type} {enc : α → List Value} {w : World} {base : Nat} {e : TypeId} {size : Nat} {v : Value} {l m : List α} (h : w.ownsRow base e size v l.length (cellsOf enc l)) (e' : l = m) : w.ownsRow base e size v m.length (cellsOf enc m) := e' ▸ h
theorem gown_nil {w : World} {g : Nat} {base : Nat} {e : TypeId} {k : Nat} (hb : Blk w g e #[]) (hg : base ≤ g) : w.ownsRow base e k (.slice (some ⟨g, 0, none⟩) 0 0) 0 [] :=
  ⟨by simp, .inr ⟨g, 0, #[], rfl, hg, hb, Nat.le_refl _, Nat.zero_le _, by simp, by simp⟩⟩
theorem gzcPt : ((Try.prog.info? 39).bind (·.zero)).map (·.cells.size) = some 33 := by kernel_rfl
theorem gzbPt : (Try.prog.info? 39).map (·.bytes) = some 36 := by kernel_rfl
theorem gzsK : ((Try.prog.info? 26).bind (·.zero)).isSome = true := by kernel_rfl
theorem Few.grown {T : TxV} (hv : heavyF T = false) (k : K32) (p : K32 × IntV .u32) : Few T ∧ Few { T with notes := T.notes ++ [k] } ∧ Few { T with ins := T.ins ++ [p] } := by
  unfold heavyF at hv
  have := of_decide_eq_false hv
  refine ⟨⟨by omega, by omega, by omega, by omega⟩, ⟨?_, ?_, ?_, ?_⟩, ⟨?_, ?_, ?_, ?_⟩⟩ <;> simp <;> omega
def gLT (w : World) (a : TxA) (k : K32) : List (Nat × TypeId × Array Value) := [(w.heap.size + 1, 26, (encK k).toArray), (w.heap.size, 29, a.cells.toArray)]
theorem gLT_tx {w W : World} {a : TxA} {k : K32} (h : Holds w (gLT w a k) W) : Blk W w.heap.size 29 a.cells.toArray := h.at (x := (w.heap.size, 29, a.cells.toArray)) (by simp [gLT])
theorem gLT_key {w W : World} {a : TxA} {k : K32} (h : Holds w (gLT w a k) W) : Blk W (w.heap.size + 1) 26 (encK k).toArray := h.at (x := (w.heap.size + 1, 26, (encK k).toArray)) (by simp [gLT])
set_option maxRecDepth 20000 in
set_option maxHeartbeats 4000000 in
theorem feeGrows_h (HAC : ActOk) (HCO : ConvOk) (HWG : WgtOk) (a : TxA) (k : K32) (w : World) (hv : heavyF a.T = true) :
    Calls Try.prog 5 #[.agg a.cells.toArray, .agg (encK k).toArray] w fun e w' => e = .returned (.bool true) ∧ Below w.heap.size w w' := by
  have SH := Lib.hid (fun W => fshown_any HAC HCO HWG W)
  have H0 := Lib.hid (show Holds w (gLT w a k) ((w.alloc (.cells a.cells.toArray 29)).alloc (.cells (encK k).toArray 26)) by
    have h := ((Holds.nil w).box 29 a.cells.toArray).box 26 (encK k).toArray
    simpa [gLT] using h)
  clear HAC HCO HWG
  go_enter Try.func5, Try.ntmps5
  go_wp2_with ((with_reducible refine at_load 2 ?_); refine tyTx.wpList_load rfl (.tmp 2) rfl w.heap.size 0 rfl a (RowC.of_blk (gLT_tx H0.out)) ?_)
  refine (fheavy_any a _).mono ?_
  rintro e w1 ⟨rfl, bq⟩
  rw [hv]
  have H1 := Lib.hid (H0.out.call bq)
  clear bq H0
  go_wp2_with fail
  refine (SH.out _).mono ?_
  rintro e w2 ⟨rfl, bq⟩
  have H2 := Lib.hid (H1.out.call bq)
  clear bq H1
  go_wp2_with fail
  go_ret
  exact ⟨rfl, H2.out.below⟩
def gB (a : TxA) (k : K32) (A : Option Addr) (c : Nat) : TxA := { a with T := { a.T with notes := a.T.notes ++ [k] }, At := A, ct := c }
def gC (a : TxA) (k : K32) (A : Option Addr) (c : Nat) : TxA := { a with T := { a.T with ins := a.T.ins ++ [(k, toU32 0)] }, Ai := A, ci := c }
theorem gbuilt (t : TypeId) (ht : t = 39) (k : K32) : Try.prog.built t [(0, .agg (encK k).toArray)] = some (encKI .u32 (k, toU32 0)).toArray := by
  subst ht
  obtain ⟨l, hl⟩ := k
  iterate 32 (rcases l with _ | ⟨b, l⟩; · simp at hl)
  rcases l with _ | ⟨b, l⟩
  · kernel_rfl
  · simp at hl
theorem grow_facts (T : TxV) (k : K32) (p : K32 × IntV .u32) : ((((actF { T with notes := T.notes ++ [k] } : Nat) : Int) = (actF T : Nat) ∧ T.notes.length < T.nulls.length) ∨ (((actF { T with notes := T.notes ++ [k] } : Nat) : Int) = (actF T : Nat) + 1 ∧ T.nulls.length ≤ T.notes.length)) ∧ ((((actF { T with ins := T.ins ++ [p] } : Nat) : Int) = (actF T : Nat) ∧ T.ins.length < T.outs.length) ∨ (((actF { T with ins := T.ins ++ [p] } : Nat) : Int) = (actF T : Nat) + 1 ∧ T.outs.length ≤ T.ins.length)) ∧ 10000 ≤ convF T ∧ convF T ≤ convF { T with notes := T.notes ++ [k] } := by
  unfold convF dueF actF
  simp only [List.length_append, List.length_cons, List.length_nil]
  omega
def gS (w : World) (a : TxA) (k : K32) (W : World) : Prop := Holds w (gLT w a k) W
set_option maxRecDepth 20000 in
set_option maxHeartbeats 4000000 in
theorem feeGrows_m (HAC : ActOk) (HCO : ConvOk) (HWG : WgtOk) (a : TxA) (k : K32) (w : World) (hin : a.In w w.heap.size) (hv : heavyF a.T = false) :
    Calls Try.prog 5 #[.agg a.cells.toArray, .agg (encK k).toArray] w fun e w' => e = .returned (.bool true) ∧ Below w.heap.size w w' := by
  have SH := Lib.hid (fun W => fshown_any HAC HCO HWG W)
  have H0 := Lib.hid (show Holds w (gLT w a k) ((w.alloc (.cells a.cells.toArray 29)).alloc (.cells (encK k).toArray 26)) by
    have h := ((Holds.nil w).box 29 a.cells.toArray).box 26 (encK k).toArray
    simpa [gLT] using h)
  have hfw := Few.grown hv k (k, toU32 0)
  have hIN := Lib.hid hin
  have HF := Lib.hid hfw
  have HL0 := Lib.hid (show ([] : List K32).length + a.T.notes.length ≤ 1000000 by have := hfw.1.t; simp; omega)
  have HL1 := Lib.hid (show a.T.notes.length + [k].length ≤ 1000000 by have := hfw.1.t; simp; omega)
  clear HWG hin hfw
  go_enter Try.func5, Try.ntmps5
  go_wp2_with ((with_reducible refine at_load 2 ?_); refine tyTx.wpList_load rfl (.tmp 2) rfl w.heap.size 0 rfl a (RowC.of_blk (gLT_tx H0.out)) ?_)
  refine (fheavy_any a _).mono ?_
  rintro e w1 ⟨rfl, bq⟩
  rw [hv]
  have H1 := Lib.hid (H0.out.call bq)
  clear bq H0
  go_wp2_with fail
  refine (SH.out _).mono ?_
  rintro e w2 ⟨rfl, bq⟩
  have H2 := Lib.hid (H1.out.call bq)
  clear bq H1
  go_wp2_with (first
    | ((with_reducible refine at_load 2 ?_); refine tyTx.wpList_load rfl (.tmp 2) rfl w.heap.size 0 rfl a (RowC.of_blk (gLT_tx H2.out)) ?_)
    | ((with_reducible refine at_store 5 17 ?_); refine tyTx.wpList_store rfl (.tmp 5) (.tmp 17) rfl rfl w2.heap.size a rfl rfl 29 _ (Blk.new w2 29 _) rfl ?_; intro w3 o3 b3
       have H3 := Lib.hid (show Holds w (gLT w a k) w3 from H2.out.call (((Below.refl w2.heap.size w2).alloc (Nat.le_refl _) _).trans (o3.below (by simp))))
       have G5 := Lib.hid (show w.heap.size + 2 ≤ w2.heap.size ∧ w2.heap.size + 1 ≤ w3.heap.size from ⟨by have := (gLT_key H2.out).lt; omega, by rw [o3.size]; simp⟩)
       have GG := Lib.hid b3
       clear H2 o3 b3))
  have HZ := Lib.hid (show w.heap.size ≤ w3.heap.size ∧ ∀ x ∈ gLT w a k, x.1 < w3.heap.size from ⟨by have := G5.out; omega, by have := G5.out; intro x hx; simp [gLT] at hx; rcases hx with rfl | rfl <;> simp <;> omega⟩)
  have HZ2 := Lib.hid (show w.heap.size ≤ w2.heap.size ∧ ∀ x ∈ gLT w a k, x.1 < w2.heap.size from ⟨by have := G5.out; omega, by have := G5.out; intro x hx; simp [gLT] at hx; rcases hx with rfl | rfl <;> simp <;> omega⟩)
  go_cut [5] from 18 (fun vx wc => ∃ (A : Option Addr) (c : Nat), vx = .pointer (some ⟨w2.heap.size, 0, none⟩) ∧ Hid (Holds w (gLT w a k) wc) ∧ Hid (Blk wc w2.heap.size 29 (gB a k A c).cells.toArray))
  case first =>
    have HH := Lib.hid (show Holds w (gLT w a k) w3.drew from ⟨H3.out.below.drew, H3.out.blks⟩)
    have EE := Lib.hid (show Below w3.heap.size w3 w3.drew from (Below.refl _ _).drew)
    clear H3
    refine wp_region_held_drew (S := gS w a k) (by kernel_rfl) HH.out ?_
    intro hS
    generalize w3.drew = wd at HH EE hS ⊢
    refine wpAnyH_take (i := 1) (v := .pointer (some ⟨w.heap.size, 36, none⟩)) rfl (by kernel_rfl) (by kernel_rfl) (by kernel_rfl) (fun _ _ _ h => h) (Or.inl ⟨by rfl, fun W _ => by go_simp; try with_reducible rfl⟩) hS ?_
    simp only [Act.put, List.getElem_toArray, List.getElem_cons_zero, List.getElem_cons_succ, List.setIfInBounds_toArray, List.set_cons_succ, List.set_cons_zero]
    refine wpAnyH_take (i := 2) (v := .slice a.At a.T.notes.length a.ct) rfl (by kernel_rfl) (by kernel_rfl) (by kernel_rfl) (fun _ _ _ h => h) (yieldsIf_cell (by rfl) 27 (.tmp 19) rfl ⟨w.heap.size, 36, none⟩ rfl _ Try.isAgg27 (fun _ h => TxA.c5 (RowC.of_blk (gLT_tx h)))) hS ?_
    simp only [Act.put, List.getElem_toArray, List.getElem_cons_zero, List.getElem_cons_succ, List.setIfInBounds_toArray, List.set_cons_succ, List.set_cons_zero]
    refine wpAnyH_take (i := 4) (v := .agg (encK k).toArray) rfl (by kernel_rfl) (by kernel_rfl) (by kernel_rfl) (fun _ _ _ h => h) (tyKc.yieldsIf_load (by rfl) (.tmp 3) rfl (w.heap.size + 1) 0 rfl k (fun _ h => by simpa using RowC.of_blk (gLT_key h))) hS ?_
    simp only [Act.put, List.getElem_toArray, List.getElem_cons_zero, List.getElem_cons_succ, List.setIfInBounds_toArray, List.set_cons_succ, List.set_cons_zero]
    refine wpAnyH_ready (rs := [0, 5]) (by kernel_rfl) (by simp) ?_
    refine AllReadyH.cons rfl (fun Kq hK => ?_) (AllReadyH.cons rfl (fun Kq hK => ?_) (AllReadyH.nil))
    · go_simp
      have q0 := gown_nil (base := w3.heap.size) (k := 32) (Blk.new (wd) 26 #[]) EE.out.size
      have O0 := Lib.hid q0
      clear q0
      have HH2 := Lib.hid (HH.out.low (show Below w3.heap.size (wd) ((wd).alloc (.cells #[] 26)) from (Below.refl w3.heap.size (wd)).alloc EE.out.size _) HZ.out.1 HZ.out.2)
      have EE2 := Lib.hid (EE.out.trans (show Below w3.heap.size (wd) ((wd).alloc (.cells #[] 26)) from (Below.refl w3.heap.size (wd)).alloc EE.out.size _))
      clear HH EE
      have HH := HH2
      have EE := EE2
      clear HH2 EE2
      refine hK.out _ _ HH.out (fun hS => ?_)
      clear hK Kq
      try simp only [Act.put, List.getElem_toArray, List.getElem_cons_zero, List.getElem_cons_succ, List.setIfInBounds_toArray, List.set_cons_succ, List.set_cons_zero]
      refine wpAnyH_ready (rs := [3, 5]) (by kernel_rfl) (by simp) ?_
      refine AllReadyH.cons rfl (fun Kq hK => ?_) (AllReadyH.cons rfl (fun Kq hK => ?_) (AllReadyH.nil))
      · refine tyKy.step_append rfl zcKy 32 zbKy (by omega) (.tmp 18) (.tmp 20) rfl w3.heap.size _ ([] : List K32) rfl O0.out _ a.At a.ct a.T.notes rfl (hIN.out.notes.below HH.out.below) HL0.out EE.out.size ?_
        intro v3 y3 p3 g3
        have e3 := gown_grown O0.out g3 EE.out.size
        have O3 := Lib.hid (gown_congr p3 (List.nil_append _))
        clear O0 p3 g3
        have HH2 := Lib.hid (HH.out.low (show Below w3.heap.size ((wd).alloc (.cells #[] 26)) (y3) from e3) HZ.out.1 HZ.out.2)
        have EE2 := Lib.hid (EE.out.trans (show Below w3.heap.size ((wd).alloc (.cells #[] 26)) (y3) from e3))
        clear HH EE
        have HH := HH2
        have EE := EE2
        clear HH2 EE2
        refine hK.out _ _ HH.out (fun hS => ?_)
        clear hK Kq
        try simp only [Act.put, List.getElem_toArray, List.getElem_cons_zero, List.getElem_cons_succ, List.setIfInBounds_toArray, List.set_cons_succ, List.set_cons_zero]
        clear e3
        refine wpAnyH_ready (rs := [5]) (by kernel_rfl) (by simp) ?_
        refine AllReadyH.cons rfl (fun Kq hK => ?_) AllReadyH.nil
        refine tyKy.step_build rfl gzsK 1 _ rfl [k] rfl (by omega) (by omega) (by kernel_rfl) ?_
        have f5 := Lib.hid (Blk.new (y3) 26 (cellsOf encK [k]).toArray)
        have O9 := Lib.hid (O3.out.alloc (.cells (cellsOf encK [k]).toArray 26))
        clear O3
        have O3 := O9
        clear O9
        have HH2 := Lib.hid (HH.out.low (show Below w3.heap.size (y3) ((y3).alloc (.cells (cellsOf encK [k]).toArray 26)) from (Below.refl w3.heap.size (y3)).alloc EE.out.size _) HZ.out.1 HZ.out.2)
        have EE2 := Lib.hid (EE.out.trans (show Below w3.heap.size (y3) ((y3).alloc (.cells (cellsOf encK [k]).toArray 26)) from (Below.refl w3.heap.size (y3)).alloc EE.out.size _))
        clear HH EE
        have HH := HH2
        have EE := EE2
        clear HH2 EE2
        refine hK.out _ _ HH.out (fun hS => ?_)
        clear hK Kq
        try simp only [Act.put, List.getElem_toArray, List.getElem_cons_zero, List.getElem_cons_succ, List.setIfInBounds_toArray, List.set_cons_succ, List.set_cons_zero]
        refine wpAnyH_ready (rs := [6]) (by kernel_rfl) (by simp) ?_
        refine AllReadyH.cons rfl (fun Kq hK => ?_) AllReadyH.nil
        refine tyKy.step_append rfl zcKy 32 zbKy (by omega) (.tmp 21) (.tmp 23) rfl w3.heap.size _ a.T.notes rfl O3.out _ _ 1 [k] rfl (rowIn_blk f5.out (by simp) (by decide)) HL1.out EE.out.size ?_
        intro v6 y6 p6 g6
        have e6 := gown_grown O3.out g6 EE.out.size
        obtain ⟨A6, c6, rfl, _⟩ := RowIn.of_own (encK_len) p6
        clear O3 f5 p6 g6
        have HH2 := Lib.hid (HH.out.low (show Below w3.heap.size ((y3).alloc (.cells (cellsOf encK [k]).toArray 26)) (y6) from e6) HZ.out.1 HZ.out.2)
        have EE2 := Lib.hid (EE.out.trans (show Below w3.heap.size ((y3).alloc (.cells (cellsOf encK [k]).toArray 26)) (y6) from e6))
        clear HH EE
        have HH := HH2
        have EE := EE2
        clear HH2 EE2
        refine hK.out _ _ HH.out (fun hS => ?_)
        clear hK Kq
        try simp only [Act.put, List.getElem_toArray, List.getElem_cons_zero, List.getElem_cons_succ, List.setIfInBounds_toArray, List.set_cons_succ, List.set_cons_zero]
        clear e6
        refine wpAnyH_take (i := 7) (v := .pointer (some ⟨w2.heap.size, 36, none⟩)) rfl (by kernel_rfl) (by kernel_rfl) (by kernel_rfl) (fun _ _ _ h => h) (Or.inl ⟨by rfl, fun W _ => by go_simp; try with_reducible rfl⟩) hS ?_
        simp only [Act.put, List.getElem_toArray, List.getElem_cons_zero, List.getElem_cons_succ, List.setIfInBounds_toArray, List.set_cons_succ, List.set_cons_zero]
        refine wpAnyH_ready (rs := [8]) (by kernel_rfl) (by simp) ?_
        refine AllReadyH.cons rfl (fun Kq hK => ?_) AllReadyH.nil
        refine step_store_cell rfl 27 (.tmp 25) (.tmp 24) rfl rfl w2.heap.size 36 (.slice A6 (a.T.notes ++ [k]).length c6) rfl rfl rfl 29 a.cells.toArray (below_blk EE.out GG.out GG.out.lt) (by rw [tyTx.arr]; omega) (by kernel_rfl) ?_
        intro w6 o6 b6
        have HH2 := Lib.hid (HH.out.low (o6.below (B := w2.heap.size) (by simp)) HZ2.out.1 HZ2.out.2)
        refine hK.out _ _ HH2.out (fun hS => ?_)
        clear hK Kq
        rw [gset_notes] at b6
        refine wpAnyH_done (by kernel_rfl) ?_ _
        go_wp2_with fail
        go_meet
        exact ⟨A6, c6, rfl, HH2, Lib.hid b6⟩
      · refine tyKy.step_build rfl gzsK 1 _ rfl [k] rfl (by omega) (by omega) (by kernel_rfl) ?_
        have f5 := Lib.hid (Blk.new ((wd).alloc (.cells #[] 26)) 26 (cellsOf encK [k]).toArray)
        have O9 := Lib.hid (O0.out.alloc (.cells (cellsOf encK [k]).toArray 26))
        clear O0
        have O0 := O9
        clear O9
        have HH2 := Lib.hid (HH.out.low (show Below w3.heap.size ((wd).alloc (.cells #[] 26)) (((wd).alloc (.cells #[] 26)).alloc (.cells (cellsOf encK [k]).toArray 26)) from (Below.refl w3.heap.size ((wd).alloc (.cells #[] 26))).alloc EE.out.size _) HZ.out.1 HZ.out.2)
        have EE2 := Lib.hid (EE.out.trans (show Below w3.heap.size ((wd).alloc (.cells #[] 26)) (((wd).alloc (.cells #[] 26)).alloc (.cells (cellsOf encK [k]).toArray 26)) from (Below.refl w3.heap.size ((wd).alloc (.cells #[] 26))).alloc EE.out.size _))
        clear HH EE
        have HH := HH2
        have EE := EE2
        clear HH2 EE2
        refine hK.out _ _ HH.out (fun hS => ?_)
        clear hK Kq
        try simp only [Act.put, List.getElem_toArray, List.getElem_cons_zero, List.getElem_cons_succ, List.setIfInBounds_toArray, List.set_cons_succ, List.set_cons_zero]
        refine wpAnyH_ready (rs := [3]) (by kernel_rfl) (by simp) ?_
        refine AllReadyH.cons rfl (fun Kq hK => ?_) AllReadyH.nil
        refine tyKy.step_append rfl zcKy 32 zbKy (by omega) (.tmp 18) (.tmp 20) rfl w3.heap.size _ ([] : List K32) rfl O0.out _ a.At a.ct a.T.notes rfl (hIN.out.notes.below HH.out.below) HL0.out EE.out.size ?_
        intro v3 y3 p3 g3
        have f6 := Lib.hid (blk_grown f5.out g3 (fun e => by have := Option.some.inj e; simp at this <;> omega))
        clear f5
        have f5 := f6
        clear f6
        have e3 := gown_grown O0.out g3 EE.out.size
        have O3 := Lib.hid (gown_congr p3 (List.nil_append _))
        clear O0 p3 g3
        have HH2 := Lib.hid (HH.out.low (show Below w3.heap.size (((wd).alloc (.cells #[] 26)).alloc (.cells (cellsOf encK [k]).toArray 26)) (y3) from e3) HZ.out.1 HZ.out.2)
        have EE2 := Lib.hid (EE.out.trans (show Below w3.heap.size (((wd).alloc (.cells #[] 26)).alloc (.cells (cellsOf encK [k]).toArray 26)) (y3) from e3))
        clear HH EE
        have HH := HH2
        have EE := EE2
        clear HH2 EE2
        refine hK.out _ _ HH.out (fun hS => ?_)
        clear hK Kq
        try simp only [Act.put, List.getElem_toArray, List.getElem_cons_zero, List.getElem_cons_succ, List.setIfInBounds_toArray, List.set_cons_succ, List.set_cons_zero]
        clear e3
        refine wpAnyH_ready (rs := [6]) (by kernel_rfl) (by simp) ?_
        refine AllReadyH.cons rfl (fun Kq hK => ?_) AllReadyH.nil
        refine tyKy.step_append rfl zcKy 32 zbKy (by omega) (.tmp 21) (.tmp 23) rfl w3.heap.size _ a.T.notes rfl O3.out _ _ 1 [k] rfl (rowIn_blk f5.out (by simp) (by decide)) HL1.out EE.out.size ?_
        intro v6 y6 p6 g6
        have e6 := gown_grown O3.out g6 EE.out.size
        obtain ⟨A6, c6, rfl, _⟩ := RowIn.of_own (encK_len) p6
        clear O3 f5 p6 g6
        have HH2 := Lib.hid (HH.out.low (show Below w3.heap.size (y3) (y6) from e6) HZ.out.1 HZ.out.2)
        have EE2 := Lib.hid (EE.out.trans (show Below w3.heap.size (y3) (y6) from e6))
        clear HH EE
        have HH := HH2
        have EE := EE2
        clear HH2 EE2
        refine hK.out _ _ HH.out (fun hS => ?_)
        clear hK Kq
        try simp only [Act.put, List.getElem_toArray, List.getElem_cons_zero, List.getElem_cons_succ, List.setIfInBounds_toArray, List.set_cons_succ, List.set_cons_zero]
        clear e6
        refine wpAnyH_take (i := 7) (v := .pointer (some ⟨w2.heap.size, 36, none⟩)) rfl (by kernel_rfl) (by kernel_rfl) (by kernel_rfl) (fun _ _ _ h => h) (Or.inl ⟨by rfl, fun W _ => by go_simp; try with_reducible rfl⟩) hS ?_
        simp only [Act.put, List.getElem_toArray, List.getElem_cons_zero, List.getElem_cons_succ, List.setIfInBounds_toArray, List.set_cons_succ, List.set_cons_zero]
        refine wpAnyH_ready (rs := [8]) (by kernel_rfl) (by simp) ?_
        refine AllReadyH.cons rfl (fun Kq hK => ?_) AllReadyH.nil
        refine step_store_cell rfl 27 (.tmp 25) (.tmp 24) rfl rfl w2.heap.size 36 (.slice A6 (a.T.notes ++ [k]).length c6) rfl rfl rfl 29 a.cells.toArray (below_blk EE.out GG.out GG.out.lt) (by rw [tyTx.arr]; omega) (by kernel_rfl) ?_
        intro w6 o6 b6
        have HH2 := Lib.hid (HH.out.low (o6.below (B := w2.heap.size) (by simp)) HZ2.out.1 HZ2.out.2)
        refine hK.out _ _ HH2.out (fun hS => ?_)
        clear hK Kq
        rw [gset_notes] at b6
        refine wpAnyH_done (by kernel_rfl) ?_ _
        go_wp2_with fail
        go_meet
        exact ⟨A6, c6, rfl, HH2, Lib.hid b6⟩
    · refine tyKy.step_build rfl gzsK 1 _ rfl [k] rfl (by omega) (by omega) (by kernel_rfl) ?_
      have f5 := Lib.hid (Blk.new (wd) 26 (cellsOf encK [k]).toArray)
      have HH2 := Lib.hid (HH.out.low (show Below w3.heap.size (wd) ((wd).alloc (.cells (cellsOf encK [k]).toArray 26)) from (Below.refl w3.heap.size (wd)).alloc EE.out.size _) HZ.out.1 HZ.out.2)
      have EE2 := Lib.hid (EE.out.trans (show Below w3.heap.size (wd) ((wd).alloc (.cells (cellsOf encK [k]).toArray 26)) from (Below.refl w3.heap.size (wd)).alloc EE.out.size _))
      clear HH EE
      have HH := HH2
      have EE := EE2
      clear HH2 EE2
      refine hK.out _ _ HH.out (fun hS => ?_)
      clear hK Kq
      try simp only [Act.put, List.getElem_toArray, List.getElem_cons_zero, List.getElem_cons_succ, List.setIfInBounds_toArray, List.set_cons_succ, List.set_cons_zero]
      refine wpAnyH_ready (rs := [0]) (by kernel_rfl) (by simp) ?_
      refine AllReadyH.cons rfl (fun Kq hK => ?_) AllReadyH.nil
      go_simp
      have q0 := gown_nil (base := w3.heap.size) (k := 32) (Blk.new ((wd).alloc (.cells (cellsOf encK [k]).toArray 26)) 26 #[]) EE.out.size
      simp only [World.size_alloc] at q0
      have O0 := Lib.hid q0
      clear q0
      have f6 := Lib.hid (f5.out.alloc (.cells #[] 26))
      clear f5
      have f5 := f6
      clear f6
      have HH2 := Lib.hid (HH.out.low (show Below w3.heap.size ((wd).alloc (.cells (cellsOf encK [k]).toArray 26)) (((wd).alloc (.cells (cellsOf encK [k]).toArray 26)).alloc (.cells #[] 26)) from (Below.refl w3.heap.size ((wd).alloc (.cells (cellsOf encK [k]).toArray 26))).alloc EE.out.size _) HZ.out.1 HZ.out.2)
      have EE2 := Lib.hid (EE.out.trans (show Below w3.heap.size ((wd).alloc (.cells (cellsOf encK [k]).toArray 26)) (((wd).alloc (.cells (cellsOf encK [k]).toArray 26)).alloc (.cells #[] 26)) from (Below.refl w3.heap.size ((wd).alloc (.cells (cellsOf encK [k]).toArray 26))).alloc EE.out.size _))
      clear HH EE
      have HH := HH2
      have EE := EE2
      clear HH2 EE2
      refine hK.out _ _ HH.out (fun hS => ?_)
      clear hK Kq
      try simp only [Act.put, List.getElem_toArray, List.getElem_cons_zero, List.getElem_cons_succ, List.setIfInBounds_toArray, List.set_cons_succ, List.set_cons_zero]
      refine wpAnyH_ready (rs := [3]) (by kernel_rfl) (by simp) ?_
      refine AllReadyH.cons rfl (fun Kq hK => ?_) AllReadyH.nil
      refine tyKy.step_append rfl zcKy 32 zbKy (by omega) (.tmp 18) (.tmp 20) rfl w3.heap.size _ ([] : List K32) rfl O0.out _ a.At a.ct a.T.notes rfl (hIN.out.notes.below HH.out.below) HL0.out EE.out.size ?_
      intro v3 y3 p3 g3
      have f6 := Lib.hid (blk_grown f5.out g3 (fun e => by have := Option.some.inj e; simp at this <;> omega))
      clear f5
      have f5 := f6
      clear f6
      have e3 := gown_grown O0.out g3 EE.out.size
      have O3 := Lib.hid (gown_congr p3 (List.nil_append _))
      clear O0 p3 g3
      have HH2 := Lib.hid (HH.out.low (show Below w3.heap.size (((wd).alloc (.cells (cellsOf encK [k]).toArray 26)).alloc (.cells #[] 26)) (y3) from e3) HZ.out.1 HZ.out.2)
      have EE2 := Lib.hid (EE.out.trans (show Below w3.heap.size (((wd).alloc (.cells (cellsOf encK [k]).toArray 26)).alloc (.cells #[] 26)) (y3) from e3))
      clear HH EE
      have HH := HH2
      have EE := EE2
      clear HH2 EE2
      refine hK.out _ _ HH.out (fun hS => ?_)
      clear hK Kq
      try simp only [Act.put, List.getElem_toArray, List.getElem_cons_zero, List.getElem_cons_succ, List.setIfInBounds_toArray, List.set_cons_succ, List.set_cons_zero]
      clear e3
      refine wpAnyH_ready (rs := [6]) (by kernel_rfl) (by simp) ?_
      refine AllReadyH.cons rfl (fun Kq hK => ?_) AllReadyH.nil
      refine tyKy.step_append rfl zcKy 32 zbKy (by omega) (.tmp 21) (.tmp 23) rfl w3.heap.size _ a.T.notes rfl O3.out _ _ 1 [k] rfl (rowIn_blk f5.out (by simp) (by decide)) HL1.out EE.out.size ?_
      intro v6 y6 p6 g6
      have e6 := gown_grown O3.out g6 EE.out.size
      obtain ⟨A6, c6, rfl, _⟩ := RowIn.of_own (encK_len) p6
      clear O3 f5 p6 g6
      have HH2 := Lib.hid (HH.out.low (show Below w3.heap.size (y3) (y6) from e6) HZ.out.1 HZ.out.2)
      have EE2 := Lib.hid (EE.out.trans (show Below w3.heap.size (y3) (y6) from e6))
      clear HH EE
      have HH := HH2
      have EE := EE2
      clear HH2 EE2
      refine hK.out _ _ HH.out (fun hS => ?_)
      clear hK Kq
      try simp only [Act.put, List.getElem_toArray, List.getElem_cons_zero, List.getElem_cons_succ, List.setIfInBounds_toArray, List.set_cons_succ, List.set_cons_zero]
      clear e6
      refine wpAnyH_take (i := 7) (v := .pointer (some ⟨w2.heap.size, 36, none⟩)) rfl (by kernel_rfl) (by kernel_rfl) (by kernel_rfl) (fun _ _ _ h => h) (Or.inl ⟨by rfl, fun W _ => by go_simp; try with_reducible rfl⟩) hS ?_
      simp only [Act.put, List.getElem_toArray, List.getElem_cons_zero, List.getElem_cons_succ, List.setIfInBounds_toArray, List.set_cons_succ, List.set_cons_zero]
      refine wpAnyH_ready (rs := [8]) (by kernel_rfl) (by simp) ?_
      refine AllReadyH.cons rfl (fun Kq hK => ?_) AllReadyH.nil
      refine step_store_cell rfl 27 (.tmp 25) (.tmp 24) rfl rfl w2.heap.size 36 (.slice A6 (a.T.notes ++ [k]).length c6) rfl rfl rfl 29 a.cells.toArray (below_blk EE.out GG.out GG.out.lt) (by rw [tyTx.arr]; omega) (by kernel_rfl) ?_
      intro w6 o6 b6
      have HH2 := Lib.hid (HH.out.low (o6.below (B := w2.heap.size) (by simp)) HZ2.out.1 HZ2.out.2)
      refine hK.out _ _ HH2.out (fun hS => ?_)
      clear hK Kq
      rw [gset_notes] at b6
      refine wpAnyH_done (by kernel_rfl) ?_ _
      go_wp2_with fail
      go_meet
      exact ⟨A6, c6, rfl, HH2, Lib.hid b6⟩
  case rest =>
    obtain ⟨A1, c1, rfl, H2, GB⟩ := hcut
    clear HZ HZ2 GG HL0 HL1
    have G2 := Lib.hid (show w.heap.size + 2 ≤ w2.heap.size from G5.out.1)
    clear G5 H3
    go_wp2_with (first
      | ((with_reducible refine at_load 2 ?_); refine tyTx.wpList_load rfl (.tmp 2) rfl w.heap.size 0 rfl a (RowC.of_blk (gLT_tx H2.out)) ?_)
      | ((with_reducible refine at_store 6 26 ?_); refine tyTx.wpList_store rfl (.tmp 6) (.tmp 26) rfl rfl wc.heap.size a rfl rfl 29 _ (Blk.new wc 29 _) rfl ?_; intro w4 o4 b4
         have BW := ((Below.refl wc.heap.size wc).alloc (Nat.le_refl _) _).trans (o4.below (by simp))
         have H3 := Lib.hid (show Holds w (gLT w a k) w4 from H2.out.call BW)
         have G5 := Lib.hid (show w.heap.size + 2 ≤ w2.heap.size ∧ w2.heap.size + 1 ≤ wc.heap.size ∧ wc.heap.size + 1 ≤ w4.heap.size from ⟨G2.out, by have := GB.out.lt; omega, by rw [o4.size]; simp⟩)
         have GB2 := Lib.hid (below_blk BW GB.out GB.out.lt)
         clear GB
         have GB := GB2
         have GG := Lib.hid b4
         clear H2 o4 b4 GB2 BW G2))
    have HL0 := Lib.hid (show ([] : List (K32 × IntV .u32)).length + a.T.ins.length ≤ 1000000 by have := HF.out.1.i; simp; omega)
    have HL1 := Lib.hid (show a.T.ins.length + [(k, toU32 0)].length ≤ 1000000 by have := HF.out.1.i; simp; omega)
    obtain ⟨g6, hg6⟩ : ∃ g, wc.heap.size = g := ⟨_, rfl⟩
    rw [hg6] at G5 GG
    rw [hg6]
    clear hg6
    have HZ := Lib.hid (show w.heap.size ≤ w4.heap.size ∧ ∀ x ∈ gLT w a k, x.1 < w4.heap.size from ⟨by have := G5.out; omega, by have := G5.out; intro x hx; simp [gLT] at hx; rcases hx with rfl | rfl <;> simp <;> omega⟩)
    have HZ2 := Lib.hid (show w.heap.size ≤ g6 ∧ ∀ x ∈ gLT w a k, x.1 < g6 from ⟨by have := G5.out; omega, by have := G5.out; intro x hx; simp [gLT] at hx; rcases hx with rfl | rfl <;> simp <;> omega⟩)
    go_cut [6] from 27 (fun vx wk => ∃ (A : Option Addr) (c : Nat), vx = .pointer (some ⟨g6, 0, none⟩) ∧ Hid (Holds w (gLT w a k) wk) ∧ Hid (Blk wk w2.heap.size 29 (gB a k A1 c1).cells.toArray) ∧ Hid (Blk wk g6 29 (gC a k A c).cells.toArray))
    case first =>
      have HH := Lib.hid (show Holds w (gLT w a k) w4.drew from ⟨H3.out.below.drew, H3.out.blks⟩)
      have EE := Lib.hid (show Below w4.heap.size w4 w4.drew from (Below.refl _ _).drew)
      clear H3
      refine wp_region_held_drew (S := gS w a k) (by kernel_rfl) HH.out ?_
      intro hS
      generalize w4.drew = wd at HH EE hS ⊢
      refine wpAnyH_take (i := 1) (v := .pointer (some ⟨w.heap.size, 1, none⟩)) rfl (by kernel_rfl) (by kernel_rfl) (by kernel_rfl) (fun _ _ _ h => h) (Or.inl ⟨by rfl, fun W _ => by go_simp; try with_reducible rfl⟩) hS ?_
      simp only [Act.put, List.getElem_toArray, List.getElem_cons_zero, List.getElem_cons_succ, List.setIfInBounds_toArray, List.set_cons_succ, List.set_cons_zero]
      refine wpAnyH_take (i := 2) (v := .slice a.Ai a.T.ins.length a.ci) rfl (by kernel_rfl) (by kernel_rfl) (by kernel_rfl) (fun _ _ _ h => h) (yieldsIf_cell (by rfl) 23 (.tmp 28) rfl ⟨w.heap.size, 1, none⟩ rfl _ Try.isAgg23 (fun _ h => TxA.c1 (RowC.of_blk (gLT_tx h)))) hS ?_
      simp only [Act.put, List.getElem_toArray, List.getElem_cons_zero, List.getElem_cons_succ, List.setIfInBounds_toArray, List.set_cons_succ, List.set_cons_zero]
      refine wpAnyH_take (i := 4) (v := .agg (encK k).toArray) rfl (by kernel_rfl) (by kernel_rfl) (by kernel_rfl) (fun _ _ _ h => h) (tyKc.yieldsIf_load (by rfl) (.tmp 3) rfl (w.heap.size + 1) 0 rfl k (fun _ h => by simpa using RowC.of_blk (gLT_key h))) hS ?_
      simp only [Act.put, List.getElem_toArray, List.getElem_cons_zero, List.getElem_cons_succ, List.setIfInBounds_toArray, List.set_cons_succ, List.set_cons_zero]
      refine wpAnyH_take (i := 5) (v := .agg (encKI .u32 (k, toU32 0)).toArray) rfl (by kernel_rfl) (by kernel_rfl) (by kernel_rfl) (fun _ _ _ h => h) (yieldsIf_build (by rfl) 39 #[(0, .tmp 31)] rfl _ ((congrArg (Try.prog.built 39) (show _ = [(0, Value.agg (encK k).toArray)] by kernel_rfl)).trans (gbuilt _ rfl k))) hS ?_
      simp only [Act.put, List.getElem_toArray, List.getElem_cons_zero, List.getElem_cons_succ, List.setIfInBounds_toArray, List.set_cons_succ, List.set_cons_zero]
      refine wpAnyH_ready (rs := [0, 6]) (by kernel_rfl) (by simp) ?_
      refine AllReadyH.cons rfl (fun Kq hK => ?_) (AllReadyH.cons rfl (fun Kq hK => ?_) (AllReadyH.nil))
      · go_simp
        have q0 := gown_nil (base := w4.heap.size) (k := 33) (Blk.new (wd) 39 #[]) EE.out.size
        have O0 := Lib.hid q0
        clear q0
        have HH2 := Lib.hid (HH.out.low (show Below w4.heap.size (wd) ((wd).alloc (.cells #[] 39)) from (Below.refl w4.heap.size (wd)).alloc EE.out.size _) HZ.out.1 HZ.out.2)
        have EE2 := Lib.hid (EE.out.trans (show Below w4.heap.size (wd) ((wd).alloc (.cells #[] 39)) from (Below.refl w4.heap.size (wd)).alloc EE.out.size _))
        clear HH EE
        have HH := HH2
        have EE := EE2
        clear HH2 EE2
        refine hK.out _ _ HH.out (fun hS => ?_)
        clear hK Kq
        try simp only [Act.put, List.getElem_toArray, List.getElem_cons_zero, List.getElem_cons_succ, List.setIfInBounds_toArray, List.set_cons_succ, List.set_cons_zero]
        refine wpAnyH_ready (rs := [3, 6]) (by kernel_rfl) (by simp) ?_
        refine AllReadyH.cons rfl (fun Kq hK => ?_) (AllReadyH.cons rfl (fun Kq hK => ?_) (AllReadyH.nil))
        · refine tyPt.step_append rfl gzcPt 36 gzbPt (by omega) (.tmp 27) (.tmp 29) rfl w4.heap.size _ ([] : List (K32 × IntV .u32)) rfl O0.out _ a.Ai a.ci a.T.ins rfl (hIN.out.ins.below HH.out.below) HL0.out EE.out.size ?_
          intro v3 y3 p3 g3
          have e3 := gown_grown O0.out g3 EE.out.size
          have O3 := Lib.hid (gown_congr p3 (List.nil_append _))
          clear O0 p3 g3
          have HH2 := Lib.hid (HH.out.low (show Below w4.heap.size ((wd).alloc (.cells #[] 39)) (y3) from e3) HZ.out.1 HZ.out.2)
          have EE2 := Lib.hid (EE.out.trans (show Below w4.heap.size ((wd).alloc (.cells #[] 39)) (y3) from e3))
          clear HH EE
          have HH := HH2
          have EE := EE2
          clear HH2 EE2
          refine hK.out _ _ HH.out (fun hS => ?_)
          clear hK Kq
          try simp only [Act.put, List.getElem_toArray, List.getElem_cons_zero, List.getElem_cons_succ, List.setIfInBounds_toArray, List.set_cons_succ, List.set_cons_zero]
          clear e3
          refine wpAnyH_ready (rs := [6]) (by kernel_rfl) (by simp) ?_
          refine AllReadyH.cons rfl (fun Kq hK => ?_) AllReadyH.nil
          refine tyPt.step_build rfl fzPt 1 _ rfl [(k, toU32 0)] rfl (by omega) (by omega) (by kernel_rfl) ?_
          have f5 := Lib.hid (Blk.new (y3) 39 (cellsOf (encKI .u32) [(k, toU32 0)]).toArray)
          have O9 := Lib.hid (O3.out.alloc (.cells (cellsOf (encKI .u32) [(k, toU32 0)]).toArray 39))
          clear O3
          have O3 := O9
          clear O9
          have HH2 := Lib.hid (HH.out.low (show Below w4.heap.size (y3) ((y3).alloc (.cells (cellsOf (encKI .u32) [(k, toU32 0)]).toArray 39)) from (Below.refl w4.heap.size (y3)).alloc EE.out.size _) HZ.out.1 HZ.out.2)
          have EE2 := Lib.hid (EE.out.trans (show Below w4.heap.size (y3) ((y3).alloc (.cells (cellsOf (encKI .u32) [(k, toU32 0)]).toArray 39)) from (Below.refl w4.heap.size (y3)).alloc EE.out.size _))
          clear HH EE
          have HH := HH2
          have EE := EE2
          clear HH2 EE2
          refine hK.out _ _ HH.out (fun hS => ?_)
          clear hK Kq
          try simp only [Act.put, List.getElem_toArray, List.getElem_cons_zero, List.getElem_cons_succ, List.setIfInBounds_toArray, List.set_cons_succ, List.set_cons_zero]
          refine wpAnyH_ready (rs := [7]) (by kernel_rfl) (by simp) ?_
          refine AllReadyH.cons rfl (fun Kq hK => ?_) AllReadyH.nil
          refine tyPt.step_append rfl gzcPt 36 gzbPt (by omega) (.tmp 30) (.tmp 33) rfl w4.heap.size _ a.T.ins rfl O3.out _ _ 1 [(k, toU32 0)] rfl (rowIn_blk f5.out (by simp) (by decide)) HL1.out EE.out.size ?_
          intro v6 y6 p6 g6
          have e6 := gown_grown O3.out g6 EE.out.size
          obtain ⟨A6, c6, rfl, _⟩ := RowIn.of_own (encKI_len _) p6
          clear O3 f5 p6 g6
          have HH2 := Lib.hid (HH.out.low (show Below w4.heap.size ((y3).alloc (.cells (cellsOf (encKI .u32) [(k, toU32 0)]).toArray 39)) (y6) from e6) HZ.out.1 HZ.out.2)
          have EE2 := Lib.hid (EE.out.trans (show Below w4.heap.size ((y3).alloc (.cells (cellsOf (encKI .u32) [(k, toU32 0)]).toArray 39)) (y6) from e6))
          clear HH EE
          have HH := HH2
          have EE := EE2
          clear HH2 EE2
          refine hK.out _ _ HH.out (fun hS => ?_)
          clear hK Kq
          try simp only [Act.put, List.getElem_toArray, List.getElem_cons_zero, List.getElem_cons_succ, List.setIfInBounds_toArray, List.set_cons_succ, List.set_cons_zero]
          clear e6
          refine wpAnyH_take (i := 8) (v := .pointer (some ⟨g6, 1, none⟩)) rfl (by kernel_rfl) (by kernel_rfl) (by kernel_rfl) (fun _ _ _ h => h) (Or.inl ⟨by rfl, fun W _ => by go_simp; try with_reducible rfl⟩) hS ?_
          simp only [Act.put, List.getElem_toArray, List.getElem_cons_zero, List.getElem_cons_succ, List.setIfInBounds_toArray, List.set_cons_succ, List.set_cons_zero]
          refine wpAnyH_ready (rs := [9]) (by kernel_rfl) (by simp) ?_
          refine AllReadyH.cons rfl (fun Kq hK => ?_) AllReadyH.nil
          refine step_store_cell rfl 23 (.tmp 35) (.tmp 34) rfl rfl g6 1 (.slice A6 (a.T.ins ++ [(k, toU32 0)]).length c6) rfl rfl rfl 29 a.cells.toArray (below_blk EE.out GG.out GG.out.lt) (by rw [tyTx.arr]; omega) (by kernel_rfl) ?_
          intro w6 o6 b6
          have HH2 := Lib.hid (HH.out.low (o6.below (B := g6) (by simp)) HZ2.out.1 HZ2.out.2)
          refine hK.out _ _ HH2.out (fun hS => ?_)
          clear hK Kq
          rw [gset_ins] at b6
          refine wpAnyH_done (by kernel_rfl) ?_ _
          go_wp2_with fail
          go_meet
          exact ⟨A6, c6, rfl, HH2, Lib.hid (below_blk (o6.below (B := g6) (by simp)) (below_blk EE.out GB.out GB.out.lt) (by have := G5.out; omega)), Lib.hid b6⟩
        · refine tyPt.step_build rfl fzPt 1 _ rfl [(k, toU32 0)] rfl (by omega) (by omega) (by kernel_rfl) ?_
          have f5 := Lib.hid (Blk.new ((wd).alloc (.cells #[] 39)) 39 (cellsOf (encKI .u32) [(k, toU32 0)]).toArray)
          have O9 := Lib.hid (O0.out.alloc (.cells (cellsOf (encKI .u32) [(k, toU32 0)]).toArray 39))
          clear O0
          have O0 := O9
          clear O9
          have HH2 := Lib.hid (HH.out.low (show Below w4.heap.size ((wd).alloc (.cells #[] 39)) (((wd).alloc (.cells #[] 39)).alloc (.cells (cellsOf (encKI .u32) [(k, toU32 0)]).toArray 39)) from (Below.refl w4.heap.size ((wd).alloc (.cells #[] 39))).alloc EE.out.size _) HZ.out.1 HZ.out.2)
          have EE2 := Lib.hid (EE.out.trans (show Below w4.heap.size ((wd).alloc (.cells #[] 39)) (((wd).alloc (.cells #[] 39)).alloc (.cells (cellsOf (encKI .u32) [(k, toU32 0)]).toArray 39)) from (Below.refl w4.heap.size ((wd).alloc (.cells #[] 39))).alloc EE.out.size _))
          clear HH EE
          have HH := HH2
          have EE := EE2
          clear HH2 EE2
          refine hK.out _ _ HH.out (fun hS => ?_)
          clear hK Kq
          try simp only [Act.put, List.getElem_toArray, List.getElem_cons_zero, List.getElem_cons_succ, List.setIfInBounds_toArray, List.set_cons_succ, List.set_cons_zero]
          refine wpAnyH_ready (rs := [3]) (by kernel_rfl) (by simp) ?_
          refine AllReadyH.cons rfl (fun Kq hK => ?_) AllReadyH.nil
          refine tyPt.step_append rfl gzcPt 36 gzbPt (by omega) (.tmp 27) (.tmp 29) rfl w4.heap.size _ ([] : List (K32 × IntV .u32)) rfl O0.out _ a.Ai a.ci a.T.ins rfl (hIN.out.ins.below HH.out.below) HL0.out EE.out.size ?_
          intro v3 y3 p3 g3
          have f6 := Lib.hid (blk_grown f5.out g3 (fun e => by have := Option.some.inj e; simp at this <;> omega))
          clear f5
          have f5 := f6
          clear f6
          have e3 := gown_grown O0.out g3 EE.out.size
          have O3 := Lib.hid (gown_congr p3 (List.nil_append _))
          clear O0 p3 g3
          have HH2 := Lib.hid (HH.out.low (show Below w4.heap.size (((wd).alloc (.cells #[] 39)).alloc (.cells (cellsOf (encKI .u32) [(k, toU32 0)]).toArray 39)) (y3) from e3) HZ.out.1 HZ.out.2)
          have EE2 := Lib.hid (EE.out.trans (show Below w4.heap.size (((wd).alloc (.cells #[] 39)).alloc (.cells (cellsOf (encKI .u32) [(k, toU32 0)]).toArray 39)) (y3) from e3))
          clear HH EE
          have HH := HH2
          have EE := EE2
          clear HH2 EE2
          refine hK.out _ _ HH.out (fun hS => ?_)
          clear hK Kq
          try simp only [Act.put, List.getElem_toArray, List.getElem_cons_zero, List.getElem_cons_succ, List.setIfInBounds_toArray, List.set_cons_succ, List.set_cons_zero]
          clear e3
          refine wpAnyH_ready (rs := [7]) (by kernel_rfl) (by simp) ?_
          refine AllReadyH.cons rfl (fun Kq hK => ?_) AllReadyH.nil
          refine tyPt.step_append rfl gzcPt 36 gzbPt (by omega) (.tmp 30) (.tmp 33) rfl w4.heap.size _ a.T.ins rfl O3.out _ _ 1 [(k, toU32 0)] rfl (rowIn_blk f5.out (by simp) (by decide)) HL1.out EE.out.size ?_
          intro v6 y6 p6 g6
          have e6 := gown_grown O3.out g6 EE.out.size
          obtain ⟨A6, c6, rfl, _⟩ := RowIn.of_own (encKI_len _) p6
          clear O3 f5 p6 g6
          have HH2 := Lib.hid (HH.out.low (show Below w4.heap.size (y3) (y6) from e6) HZ.out.1 HZ.out.2)
          have EE2 := Lib.hid (EE.out.trans (show Below w4.heap.size (y3) (y6) from e6))
          clear HH EE
          have HH := HH2
          have EE := EE2
          clear HH2 EE2
          refine hK.out _ _ HH.out (fun hS => ?_)
          clear hK Kq
          try simp only [Act.put, List.getElem_toArray, List.getElem_cons_zero, List.getElem_cons_succ, List.setIfInBounds_toArray, List.set_cons_succ, List.set_cons_zero]
          clear e6
          refine wpAnyH_take (i := 8) (v := .pointer (some ⟨g6, 1, none⟩)) rfl (by kernel_rfl) (by kernel_rfl) (by kernel_rfl) (fun _ _ _ h => h) (Or.inl ⟨by rfl, fun W _ => by go_simp; try with_reducible rfl⟩) hS ?_
          simp only [Act.put, List.getElem_toArray, List.getElem_cons_zero, List.getElem_cons_succ, List.setIfInBounds_toArray, List.set_cons_succ, List.set_cons_zero]
          refine wpAnyH_ready (rs := [9]) (by kernel_rfl) (by simp) ?_
          refine AllReadyH.cons rfl (fun Kq hK => ?_) AllReadyH.nil
          refine step_store_cell rfl 23 (.tmp 35) (.tmp 34) rfl rfl g6 1 (.slice A6 (a.T.ins ++ [(k, toU32 0)]).length c6) rfl rfl rfl 29 a.cells.toArray (below_blk EE.out GG.out GG.out.lt) (by rw [tyTx.arr]; omega) (by kernel_rfl) ?_
          intro w6 o6 b6
          have HH2 := Lib.hid (HH.out.low (o6.below (B := g6) (by simp)) HZ2.out.1 HZ2.out.2)
          refine hK.out _ _ HH2.out (fun hS => ?_)
          clear hK Kq
          rw [gset_ins] at b6
          refine wpAnyH_done (by kernel_rfl) ?_ _
          go_wp2_with fail
          go_meet
          exact ⟨A6, c6, rfl, HH2, Lib.hid (below_blk (o6.below (B := g6) (by simp)) (below_blk EE.out GB.out GB.out.lt) (by have := G5.out; omega)), Lib.hid b6⟩
      · refine tyPt.step_build rfl fzPt 1 _ rfl [(k, toU32 0)] rfl (by omega) (by omega) (by kernel_rfl) ?_
        have f5 := Lib.hid (Blk.new (wd) 39 (cellsOf (encKI .u32) [(k, toU32 0)]).toArray)
        have HH2 := Lib.hid (HH.out.low (show Below w4.heap.size (wd) ((wd).alloc (.cells (cellsOf (encKI .u32) [(k, toU32 0)]).toArray 39)) from (Below.refl w4.heap.size (wd)).alloc EE.out.size _) HZ.out.1 HZ.out.2)
        have EE2 := Lib.hid (EE.out.trans (show Below w4.heap.size (wd) ((wd).alloc (.cells (cellsOf (encKI .u32) [(k, toU32 0)]).toArray 39)) from (Below.refl w4.heap.size (wd)).alloc EE.out.size _))
        clear HH EE
        have HH := HH2
        have EE := EE2
        clear HH2 EE2
        refine hK.out _ _ HH.out (fun hS => ?_)
        clear hK Kq
        try simp only [Act.put, List.getElem_toArray, List.getElem_cons_zero, List.getElem_cons_succ, List.setIfInBounds_toArray, List.set_cons_succ, List.set_cons_zero]
        refine wpAnyH_ready (rs := [0]) (by kernel_rfl) (by simp) ?_
        refine AllReadyH.cons rfl (fun Kq hK => ?_) AllReadyH.nil
        go_simp
        have q0 := gown_nil (base := w4.heap.size) (k := 33) (Blk.new ((wd).alloc (.cells (cellsOf (encKI .u32) [(k, toU32 0)]).toArray 39)) 39 #[]) EE.out.size
        simp only [World.size_alloc] at q0
        have O0 := Lib.hid q0
        clear q0
        have f6 := Lib.hid (f5.out.alloc (.cells #[] 39))
        clear f5
        have f5 := f6
        clear f6
        have HH2 := Lib.hid (HH.out.low (show Below w4.heap.size ((wd).alloc (.cells (cellsOf (encKI .u32) [(k, toU32 0)]).toArray 39)) (((wd).alloc (.cells (cellsOf (encKI .u32) [(k, toU32 0)]).toArray 39)).alloc (.cells #[] 39)) from (Below.refl w4.heap.size ((wd).alloc (.cells (cellsOf (encKI .u32) [(k, toU32 0)]).toArray 39))).alloc EE.out.size _) HZ.out.1 HZ.out.2)
        have EE2 := Lib.hid (EE.out.trans (show Below w4.heap.size ((wd).alloc (.cells (cellsOf (encKI .u32) [(k, toU32 0)]).toArray 39)) (((wd).alloc (.cells (cellsOf (encKI .u32) [(k, toU32 0)]).toArray 39)).alloc (.cells #[] 39)) from (Below.refl w4.heap.size ((wd).alloc (.cells (cellsOf (encKI .u32) [(k, toU32 0)]).toArray 39))).alloc EE.out.size _))
        clear HH EE
        have HH := HH2
        have EE := EE2
        clear HH2 EE2
        refine hK.out _ _ HH.out (fun hS => ?_)
        clear hK Kq
        try simp only [Act.put, List.getElem_toArray, List.getElem_cons_zero, List.getElem_cons_succ, List.setIfInBounds_toArray, List.set_cons_succ, List.set_cons_zero]
        refine wpAnyH_ready (rs := [3]) (by kernel_rfl) (by simp) ?_
        refine AllReadyH.cons rfl (fun Kq hK => ?_) AllReadyH.nil
        refine tyPt.step_append rfl gzcPt 36 gzbPt (by omega) (.tmp 27) (.tmp 29) rfl w4.heap.size _ ([] : List (K32 × IntV .u32)) rfl O0.out _ a.Ai a.ci a.T.ins rfl (hIN.out.ins.below HH.out.below) HL0.out EE.out.size ?_
        intro v3 y3 p3 g3
        have f6 := Lib.hid (blk_grown f5.out g3 (fun e => by have := Option.some.inj e; simp at this <;> omega))
        clear f5
        have f5 := f6
        clear f6
        have e3 := gown_grown O0.out g3 EE.out.size
        have O3 := Lib.hid (gown_congr p3 (List.nil_append _))
        clear O0 p3 g3
        have HH2 := Lib.hid (HH.out.low (show Below w4.heap.size (((wd).alloc (.cells (cellsOf (encKI .u32) [(k, toU32 0)]).toArray 39)).alloc (.cells #[] 39)) (y3) from e3) HZ.out.1 HZ.out.2)
        have EE2 := Lib.hid (EE.out.trans (show Below w4.heap.size (((wd).alloc (.cells (cellsOf (encKI .u32) [(k, toU32 0)]).toArray 39)).alloc (.cells #[] 39)) (y3) from e3))
        clear HH EE
        have HH := HH2
        have EE := EE2
        clear HH2 EE2
        refine hK.out _ _ HH.out (fun hS => ?_)
        clear hK Kq
        try simp only [Act.put, List.getElem_toArray, List.getElem_cons_zero, List.getElem_cons_succ, List.setIfInBounds_toArray, List.set_cons_succ, List.set_cons_zero]
        clear e3
        refine wpAnyH_ready (rs := [7]) (by kernel_rfl) (by simp) ?_
        refine AllReadyH.cons rfl (fun Kq hK => ?_) AllReadyH.nil
        refine tyPt.step_append rfl gzcPt 36 gzbPt (by omega) (.tmp 30) (.tmp 33) rfl w4.heap.size _ a.T.ins rfl O3.out _ _ 1 [(k, toU32 0)] rfl (rowIn_blk f5.out (by simp) (by decide)) HL1.out EE.out.size ?_
        intro v6 y6 p6 g6
        have e6 := gown_grown O3.out g6 EE.out.size
        obtain ⟨A6, c6, rfl, _⟩ := RowIn.of_own (encKI_len _) p6
        clear O3 f5 p6 g6
        have HH2 := Lib.hid (HH.out.low (show Below w4.heap.size (y3) (y6) from e6) HZ.out.1 HZ.out.2)
        have EE2 := Lib.hid (EE.out.trans (show Below w4.heap.size (y3) (y6) from e6))
        clear HH EE
        have HH := HH2
        have EE := EE2
        clear HH2 EE2
        refine hK.out _ _ HH.out (fun hS => ?_)
        clear hK Kq
        try simp only [Act.put, List.getElem_toArray, List.getElem_cons_zero, List.getElem_cons_succ, List.setIfInBounds_toArray, List.set_cons_succ, List.set_cons_zero]
        clear e6
        refine wpAnyH_take (i := 8) (v := .pointer (some ⟨g6, 1, none⟩)) rfl (by kernel_rfl) (by kernel_rfl) (by kernel_rfl) (fun _ _ _ h => h) (Or.inl ⟨by rfl, fun W _ => by go_simp; try with_reducible rfl⟩) hS ?_
        simp only [Act.put, List.getElem_toArray, List.getElem_cons_zero, List.getElem_cons_succ, List.setIfInBounds_toArray, List.set_cons_succ, List.set_cons_zero]
        refine wpAnyH_ready (rs := [9]) (by kernel_rfl) (by simp) ?_
        refine AllReadyH.cons rfl (fun Kq hK => ?_) AllReadyH.nil
        refine step_store_cell rfl 23 (.tmp 35) (.tmp 34) rfl rfl g6 1 (.slice A6 (a.T.ins ++ [(k, toU32 0)]).length c6) rfl rfl rfl 29 a.cells.toArray (below_blk EE.out GG.out GG.out.lt) (by rw [tyTx.arr]; omega) (by kernel_rfl) ?_
        intro w6 o6 b6
        have HH2 := Lib.hid (HH.out.low (o6.below (B := g6) (by simp)) HZ2.out.1 HZ2.out.2)
        refine hK.out _ _ HH2.out (fun hS => ?_)
        clear hK Kq
        rw [gset_ins] at b6
        refine wpAnyH_done (by kernel_rfl) ?_ _
        go_wp2_with fail
        go_meet
        exact ⟨A6, c6, rfl, HH2, Lib.hid (below_blk (o6.below (B := g6) (by simp)) (below_blk EE.out GB.out GB.out.lt) (by have := G5.out; omega)), Lib.hid b6⟩
    case rest =>
      obtain ⟨A2, c2, rfl, J0, GB0, GC0⟩ := hcut
      clear HZ HZ2 GG HL0 HL1 H3 GB G5 hIN
      have hg := grow_facts a.T k (k, toU32 0)
      obtain ⟨n, hn⟩ : ∃ n : Int, ((actF a.T : Nat) : Int) = n := ⟨_, rfl⟩
      obtain ⟨n1, hn1⟩ : ∃ n : Int, ((actF (gB a k A1 c1).T : Nat) : Int) = n := ⟨_, rfl⟩
      obtain ⟨n2, hn2⟩ : ∃ n : Int, ((actF (gC a k A2 c2).T : Nat) : Int) = n := ⟨_, rfl⟩
      obtain ⟨ca, hca⟩ : ∃ n : Int, convF a.T = n := ⟨_, rfl⟩
      obtain ⟨cb, hcb⟩ : ∃ n : Int, convF (gB a k A1 c1).T = n := ⟨_, rfl⟩
      change (((((actF (gB a k A1 c1).T : Nat) : Int) = _ ∧ _) ∨ (((actF (gB a k A1 c1).T : Nat) : Int) = _ ∧ _)) ∧ ((((actF (gC a k A2 c2).T : Nat) : Int) = _ ∧ _) ∨ (((actF (gC a k A2 c2).T : Nat) : Int) = _ ∧ _)) ∧ _ ∧ _ ≤ convF (gB a k A1 c1).T) at hg
      have Z0 := Lib.hid (fun W => HAC a W HF.out.1)
      have Z1 := Lib.hid (fun W => HAC (gB a k A1 c1) W HF.out.2.1)
      have Z2 := Lib.hid (fun W => HAC (gC a k A2 c2) W HF.out.2.2)
      have Y0 := Lib.hid (fun W => HCO a W HF.out.1)
      have Y1 := Lib.hid (fun W => HCO (gB a k A1 c1) W HF.out.2.1)
      have hdu := HF.out.1.due.2.2
      rw [hn] at Z0 hg
      rw [hn1] at Z1 hg
      rw [hn2] at Z2 hg
      rw [hca] at Y0 hg
      rw [hcb] at Y1 hg
      have HG := Lib.hid hg
      have HN := Lib.hid (show 0 ≤ n ∧ n ≤ 200 by omega)
      clear hg hn hn1 hn2 hca hcb hdu HF
      go_wp2_with ((with_reducible refine at_load 2 ?_); refine tyTx.wpList_load rfl (.tmp 2) rfl w.heap.size 0 rfl a (RowC.of_blk (gLT_tx J0.out)) ?_)
      refine (Z0.out _).mono ?_
      rintro e x1 ⟨rfl, bq⟩
      have J1 := Lib.hid (J0.out.call bq)
      have GB1 := Lib.hid (below_blk bq GB0.out GB0.out.lt)
      have GC1 := Lib.hid (below_blk bq GC0.out GC0.out.lt)
      clear bq J0 GB0 GC0
      go_wp2_with ((with_reducible refine at_load 5 ?_); refine tyTx.wpList_load rfl (.tmp 5) rfl w2.heap.size 0 rfl (gB a k A1 c1) (RowC.of_blk (GB1.out)) ?_)
      refine (Z1.out _).mono ?_
      rintro e x2 ⟨rfl, bq⟩
      have J2 := Lib.hid (J1.out.call bq)
      have GB2 := Lib.hid (below_blk bq GB1.out GB1.out.lt)
      have GC2 := Lib.hid (below_blk bq GC1.out GC1.out.lt)
      clear bq J1 GB1 GC1
      go_wp2_with ((with_reducible refine at_load 6 ?_); refine tyTx.wpList_load rfl (.tmp 6) rfl g6 0 rfl (gC a k A2 c2) (RowC.of_blk (GC2.out)) ?_)
      refine (Z2.out _).mono ?_
      rintro e x3 ⟨rfl, bq⟩
      have J3 := Lib.hid (J2.out.call bq)
      have GB3 := Lib.hid (below_blk bq GB2.out GB2.out.lt)
      have GC3 := Lib.hid (below_blk bq GC2.out GC2.out.lt)
      clear bq J2 GB2 GC2
      obtain ⟨hA, hB, hcv⟩ := HG.out
      have d5 : decide (10000 ≤ ca) = true := decide_eq_true hcv.1
      have d6 : decide (ca ≤ cb) = true := decide_eq_true hcv.2
      have d7 : IntKind.i64.wrap (n + 1) = n + 1 := by have := HN.out; rw [IntKind.wrap_i64]; omega
      have q1 : (n == n + 1) = false := beq_eq_false_iff_ne.2 (by omega)
      have q2 : (n + 1 == n) = false := beq_eq_false_iff_ne.2 (by omega)
      clear hcv HG HN Z0 Z1 Z2
      rcases hA with ⟨rfl, l1⟩ | ⟨rfl, l1⟩ <;> rcases hB with ⟨rfl, l2⟩ | ⟨rfl, l2⟩
      · have d1 : decide (a.T.nulls.length ≤ a.T.notes.length) = false := by simp; omega
        have d2 : decide (a.T.outs.length ≤ a.T.ins.length) = false := by simp; omega
        clear l1 l2
        go_wp2_with fail
        have RT := Lib.hid (show ∀ W, From x3 W → RowC W w.heap.size 0 a.cells from fun W hC => RowC.of_blk (gLT_tx (J3.out.call hC.below)))
        have RB := Lib.hid (show ∀ W, From x3 W → RowC W w2.heap.size 0 (gB a k A1 c1).cells from fun W hC => RowC.of_blk (below_blk hC.below GB3.out GB3.out.lt))
        refine wp_region_from (by kernel_rfl) (by kernel_rfl) ?_
        repeat (first
          | go_big_quiet_skip
          | ((with_reducible refine at_qload 2 ?_); refine tyTx.wpQuiet_load (by rfl) (.tmp 2) rfl w.heap.size 0 rfl a RT.out ?_; simp only [Act.put, List.setIfInBounds_toArray, List.set_cons_succ, List.set_cons_zero])
          | ((with_reducible refine at_qload 5 ?_); refine tyTx.wpQuiet_load (by rfl) (.tmp 5) rfl w2.heap.size 0 rfl (gB a k A1 c1) RB.out ?_; simp only [Act.put, List.setIfInBounds_toArray, List.set_cons_succ, List.set_cons_zero])
          | ((with_reducible refine at_qload 67 ?_); refine wpQuiet_load_one (by rfl) 27 (.tmp 67) rfl ⟨w.heap.size, 36, none⟩ rfl _ Try.isAgg27 (fun W hC => TxA.c5 (RT.out W hC)) ?_; simp only [Act.put, List.setIfInBounds_toArray, List.set_cons_succ, List.set_cons_zero])
          | ((with_reducible refine at_qload 70 ?_); refine wpQuiet_load_one (by rfl) 27 (.tmp 70) rfl ⟨w.heap.size, 35, none⟩ rfl _ Try.isAgg27 (fun W hC => TxA.c4 (RT.out W hC)) ?_; simp only [Act.put, List.setIfInBounds_toArray, List.set_cons_succ, List.set_cons_zero])
          | ((with_reducible refine at_qload 81 ?_); refine wpQuiet_load_one (by rfl) 23 (.tmp 81) rfl ⟨w.heap.size, 1, none⟩ rfl _ Try.isAgg23 (fun W hC => TxA.c1 (RT.out W hC)) ?_; simp only [Act.put, List.setIfInBounds_toArray, List.set_cons_succ, List.set_cons_zero])
          | ((with_reducible refine at_qload 84 ?_); refine wpQuiet_load_one (by rfl) 24 (.tmp 84) rfl ⟨w.heap.size, 2, none⟩ rfl _ Try.isAgg24 (fun W hC => TxA.c2 (RT.out W hC)) ?_; simp only [Act.put, List.setIfInBounds_toArray, List.set_cons_succ, List.set_cons_zero])
          | (go_big_quiet_want; go_big_quiet_op; refine ⟨_, fun _ _ => by with_reducible rfl, ?_⟩; go_big_quiet_on)
          | go_big_quiet_step ((intro hC; first
              | (go_at_call 13; with_reducible exact (Y0.out _).mono fun _ _ h => ⟨h.1, hC.call h.2⟩)
              | (go_at_call 13; with_reducible exact (Y1.out _).mono fun _ _ h => ⟨h.1, hC.call h.2⟩))))
        refine wpQuiet_nil ?_
        intro x4 hC
        have J4 := Lib.hid (J3.out.call hC.below)
        clear hC RT RB J3
        go_wp2_with fail
        go_ret
        exact ⟨by simp, J4.out.below⟩
      · have d1 : decide (a.T.nulls.length ≤ a.T.notes.length) = false := by simp; omega
        have d2 : decide (a.T.outs.length ≤ a.T.ins.length) = true := by simp; omega
        clear l1 l2
        go_wp2_with fail
        have RT := Lib.hid (show ∀ W, From x3 W → RowC W w.heap.size 0 a.cells from fun W hC => RowC.of_blk (gLT_tx (J3.out.call hC.below)))
        have RB := Lib.hid (show ∀ W, From x3 W → RowC W w2.heap.size 0 (gB a k A1 c1).cells from fun W hC => RowC.of_blk (below_blk hC.below GB3.out GB3.out.lt))
        refine wp_region_from (by kernel_rfl) (by kernel_rfl) ?_
        repeat (first
          | go_big_quiet_skip
          | ((with_reducible refine at_qload 2 ?_); refine tyTx.wpQuiet_load (by rfl) (.tmp 2) rfl w.heap.size 0 rfl a RT.out ?_; simp only [Act.put, List.setIfInBounds_toArray, List.set_cons_succ, List.set_cons_zero])
          | ((with_reducible refine at_qload 5 ?_); refine tyTx.wpQuiet_load (by rfl) (.tmp 5) rfl w2.heap.size 0 rfl (gB a k A1 c1) RB.out ?_; simp only [Act.put, List.setIfInBounds_toArray, List.set_cons_succ, List.set_cons_zero])
          | ((with_reducible refine at_qload 67 ?_); refine wpQuiet_load_one (by rfl) 27 (.tmp 67) rfl ⟨w.heap.size, 36, none⟩ rfl _ Try.isAgg27 (fun W hC => TxA.c5 (RT.out W hC)) ?_; simp only [Act.put, List.setIfInBounds_toArray, List.set_cons_succ, List.set_cons_zero])
          | ((with_reducible refine at_qload 70 ?_); refine wpQuiet_load_one (by rfl) 27 (.tmp 70) rfl ⟨w.heap.size, 35, none⟩ rfl _ Try.isAgg27 (fun W hC => TxA.c4 (RT.out W hC)) ?_; simp only [Act.put, List.setIfInBounds_toArray, List.set_cons_succ, List.set_cons_zero])
          | ((with_reducible refine at_qload 81 ?_); refine wpQuiet_load_one (by rfl) 23 (.tmp 81) rfl ⟨w.heap.size, 1, none⟩ rfl _ Try.isAgg23 (fun W hC => TxA.c1 (RT.out W hC)) ?_; simp only [Act.put, List.setIfInBounds_toArray, List.set_cons_succ, List.set_cons_zero])
          | ((with_reducible refine at_qload 84 ?_); refine wpQuiet_load_one (by rfl) 24 (.tmp 84) rfl ⟨w.heap.size, 2, none⟩ rfl _ Try.isAgg24 (fun W hC => TxA.c2 (RT.out W hC)) ?_; simp only [Act.put, List.setIfInBounds_toArray, List.set_cons_succ, List.set_cons_zero])
          | (go_big_quiet_want; go_big_quiet_op; refine ⟨_, fun _ _ => by with_reducible rfl, ?_⟩; go_big_quiet_on)
          | go_big_quiet_step ((intro hC; first
              | (go_at_call 13; with_reducible exact (Y0.out _).mono fun _ _ h => ⟨h.1, hC.call h.2⟩)
              | (go_at_call 13; with_reducible exact (Y1.out _).mono fun _ _ h => ⟨h.1, hC.call h.2⟩))))
        refine wpQuiet_nil ?_
        intro x4 hC
        have J4 := Lib.hid (J3.out.call hC.below)
        clear hC RT RB J3
        go_wp2_with fail
        go_ret
        exact ⟨by simp, J4.out.below⟩
      · have d1 : decide (a.T.nulls.length ≤ a.T.notes.length) = true := by simp; omega
        have d2 : decide (a.T.outs.length ≤ a.T.ins.length) = false := by simp; omega
        clear l1 l2
        go_wp2_with fail
        have RT := Lib.hid (show ∀ W, From x3 W → RowC W w.heap.size 0 a.cells from fun W hC => RowC.of_blk (gLT_tx (J3.out.call hC.below)))
        have RB := Lib.hid (show ∀ W, From x3 W → RowC W w2.heap.size 0 (gB a k A1 c1).cells from fun W hC => RowC.of_blk (below_blk hC.below GB3.out GB3.out.lt))
        refine wp_region_from (by kernel_rfl) (by kernel_rfl) ?_
        repeat (first
          | go_big_quiet_skip
          | ((with_reducible refine at_qload 2 ?_); refine tyTx.wpQuiet_load (by rfl) (.tmp 2) rfl w.heap.size 0 rfl a RT.out ?_; simp only [Act.put, List.setIfInBounds_toArray, List.set_cons_succ, List.set_cons_zero])
          | ((with_reducible refine at_qload 5 ?_); refine tyTx.wpQuiet_load (by rfl) (.tmp 5) rfl w2.heap.size 0 rfl (gB a k A1 c1) RB.out ?_; simp only [Act.put, List.setIfInBounds_toArray, List.set_cons_succ, List.set_cons_zero])
          | ((with_reducible refine at_qload 67 ?_); refine wpQuiet_load_one (by rfl) 27 (.tmp 67) rfl ⟨w.heap.size, 36, none⟩ rfl _ Try.isAgg27 (fun W hC => TxA.c5 (RT.out W hC)) ?_; simp only [Act.put, List.setIfInBounds_toArray, List.set_cons_succ, List.set_cons_zero])
          | ((with_reducible refine at_qload 70 ?_); refine wpQuiet_load_one (by rfl) 27 (.tmp 70) rfl ⟨w.heap.size, 35, none⟩ rfl _ Try.isAgg27 (fun W hC => TxA.c4 (RT.out W hC)) ?_; simp only [Act.put, List.setIfInBounds_toArray, List.set_cons_succ, List.set_cons_zero])
          | ((with_reducible refine at_qload 81 ?_); refine wpQuiet_load_one (by rfl) 23 (.tmp 81) rfl ⟨w.heap.size, 1, none⟩ rfl _ Try.isAgg23 (fun W hC => TxA.c1 (RT.out W hC)) ?_; simp only [Act.put, List.setIfInBounds_toArray, List.set_cons_succ, List.set_cons_zero])
          | ((with_reducible refine at_qload 84 ?_); refine wpQuiet_load_one (by rfl) 24 (.tmp 84) rfl ⟨w.heap.size, 2, none⟩ rfl _ Try.isAgg24 (fun W hC => TxA.c2 (RT.out W hC)) ?_; simp only [Act.put, List.setIfInBounds_toArray, List.set_cons_succ, List.set_cons_zero])
          | (go_big_quiet_want; go_big_quiet_op; refine ⟨_, fun _ _ => by with_reducible rfl, ?_⟩; go_big_quiet_on)
          | go_big_quiet_step ((intro hC; first
              | (go_at_call 13; with_reducible exact (Y0.out _).mono fun _ _ h => ⟨h.1, hC.call h.2⟩)
              | (go_at_call 13; with_reducible exact (Y1.out _).mono fun _ _ h => ⟨h.1, hC.call h.2⟩))))
        refine wpQuiet_nil ?_
        intro x4 hC
        have J4 := Lib.hid (J3.out.call hC.below)
        clear hC RT RB J3
        go_wp2_with fail
        go_ret
        exact ⟨by simp, J4.out.below⟩
      · have d1 : decide (a.T.nulls.length ≤ a.T.notes.length) = true := by simp; omega
        have d2 : decide (a.T.outs.length ≤ a.T.ins.length) = true := by simp; omega
        clear l1 l2
        go_wp2_with fail
        have RT := Lib.hid (show ∀ W, From x3 W → RowC W w.heap.size 0 a.cells from fun W hC => RowC.of_blk (gLT_tx (J3.out.call hC.below)))
        have RB := Lib.hid (show ∀ W, From x3 W → RowC W w2.heap.size 0 (gB a k A1 c1).cells from fun W hC => RowC.of_blk (below_blk hC.below GB3.out GB3.out.lt))
        refine wp_region_from (by kernel_rfl) (by kernel_rfl) ?_
        repeat (first
          | go_big_quiet_skip
          | ((with_reducible refine at_qload 2 ?_); refine tyTx.wpQuiet_load (by rfl) (.tmp 2) rfl w.heap.size 0 rfl a RT.out ?_; simp only [Act.put, List.setIfInBounds_toArray, List.set_cons_succ, List.set_cons_zero])
          | ((with_reducible refine at_qload 5 ?_); refine tyTx.wpQuiet_load (by rfl) (.tmp 5) rfl w2.heap.size 0 rfl (gB a k A1 c1) RB.out ?_; simp only [Act.put, List.setIfInBounds_toArray, List.set_cons_succ, List.set_cons_zero])
          | ((with_reducible refine at_qload 67 ?_); refine wpQuiet_load_one (by rfl) 27 (.tmp 67) rfl ⟨w.heap.size, 36, none⟩ rfl _ Try.isAgg27 (fun W hC => TxA.c5 (RT.out W hC)) ?_; simp only [Act.put, List.setIfInBounds_toArray, List.set_cons_succ, List.set_cons_zero])
          | ((with_reducible refine at_qload 70 ?_); refine wpQuiet_load_one (by rfl) 27 (.tmp 70) rfl ⟨w.heap.size, 35, none⟩ rfl _ Try.isAgg27 (fun W hC => TxA.c4 (RT.out W hC)) ?_; simp only [Act.put, List.setIfInBounds_toArray, List.set_cons_succ, List.set_cons_zero])
          | ((with_reducible refine at_qload 81 ?_); refine wpQuiet_load_one (by rfl) 23 (.tmp 81) rfl ⟨w.heap.size, 1, none⟩ rfl _ Try.isAgg23 (fun W hC => TxA.c1 (RT.out W hC)) ?_; simp only [Act.put, List.setIfInBounds_toArray, List.set_cons_succ, List.set_cons_zero])
          | ((with_reducible refine at_qload 84 ?_); refine wpQuiet_load_one (by rfl) 24 (.tmp 84) rfl ⟨w.heap.size, 2, none⟩ rfl _ Try.isAgg24 (fun W hC => TxA.c2 (RT.out W hC)) ?_; simp only [Act.put, List.setIfInBounds_toArray, List.set_cons_succ, List.set_cons_zero])
          | (go_big_quiet_want; go_big_quiet_op; refine ⟨_, fun _ _ => by with_reducible rfl, ?_⟩; go_big_quiet_on)
          | go_big_quiet_step ((intro hC; first
              | (go_at_call 13; with_reducible exact (Y0.out _).mono fun _ _ h => ⟨h.1, hC.call h.2⟩)
              | (go_at_call 13; with_reducible exact (Y1.out _).mono fun _ _ h => ⟨h.1, hC.call h.2⟩))))
        refine wpQuiet_nil ?_
        intro x4 hC
        have J4 := Lib.hid (J3.out.call hC.below)
        clear hC RT RB J3
        go_wp2_with fail
        go_ret
        exact ⟨by simp, J4.out.below⟩
theorem feeGrows_walk (HAC : ActOk) (HCO : ConvOk) (HWG : WgtOk) (a : TxA) (k : K32) (w : World) (hin : a.In w w.heap.size) :
    Calls Try.prog 5 #[.agg a.cells.toArray, .agg (encK k).toArray] w fun e w' => e = .returned (.bool true) ∧ Below w.heap.size w w' := by
  cases hv : heavyF a.T with
  | true => exact feeGrows_h HAC HCO HWG a k w hv
  | false => exact feeGrows_m HAC HCO HWG a k w hin hv
end Go.Proofs.Ytjlgcpdlenkehaa
