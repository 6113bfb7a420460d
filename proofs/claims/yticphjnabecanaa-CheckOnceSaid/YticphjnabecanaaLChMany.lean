/- CheckMany's walk. Written by genLCm.py. -/
import Derived.Test.YticphjnabecanaaLChk
namespace Go.Proofs.Yticphjnabecanaa
open Go.RowKit
theorem aa_grown {w w' : World} {base : Nat} {e : TypeId} {size n : Nat} {v : Value} {xs : List Value} (h : w.ownsRow base e size v n xs) (hg : w.grownBy w' v.ownBlock) (hB : base ≤ w.heap.size) : Below base w w' := (Below.refl _ _).grown hg hB (own_base h)
theorem aa_congr {α : Type} {enc : α → List Value} {w : World} {base : Nat} {e : TypeId} {size : Nat} {v : Value} {l m : List α} (h : w.ownsRow base e size v l.length (cellsOf enc l)) (e' : l = m) : w.ownsRow base e size v m.length (cellsOf enc m) := e' ▸ h
theorem aa_nil {w : World} {g : Nat} {base : Nat} {e : TypeId} {k : Nat} (hb : Blk w g e #[]) (hg : base ≤ g) : w.ownsRow base e k (.slice (some ⟨g, 0, none⟩) 0 0) 0 [] :=
  ⟨by simp, .inr ⟨g, 0, #[], rfl, hg, hb, Nat.le_refl _, Nat.zero_le _, by simp, by simp⟩⟩
theorem chzsK : ((Try.prog.info? 26).bind (·.zero)).isSome = true := by kernel_rfl
theorem chRow_drew {α : Type} {enc : α → List Value} {k c : Nat} {w : World} {A : Option Addr} {l : List α} (h : RowIn enc k w w.heap.size A c l) : RowIn enc k w.drew w.drew.heap.size A c l := ⟨h.le, h.max, h.cells⟩
/-- the notes behind j rounds -/
def chN (a : TxA) (k : K32) (j : Nat) : List K32 := a.T.notes ++ List.replicate j k
theorem chN_succ (a : TxA) (k : K32) (j : Nat) : chN a k j ++ [k] = chN a k (j + 1) := by
  unfold chN
  rw [List.append_assoc, List.replicate_succ']
theorem chN_len (a : TxA) (k : K32) (j : Nat) : (chN a k j).length = a.T.notes.length + j := by unfold chN; rw [List.length_append, List.length_replicate]
def chD (a : TxA) (k : K32) (j : Nat) (A : Option Addr) (c : Nat) : TxA := { a with T := { a.T with notes := chN a k j }, At := A, ct := c }
theorem chD_zero (a : TxA) (k : K32) : chD a k 0 a.At a.ct = a := by unfold chD chN; simp
theorem chD_c5 {a : TxA} {k : K32} {j : Nat} {A : Option Addr} {c g : Nat} {W : World} (h : Blk W g 29 (chD a k j A c).cells.toArray) : W.cell? ⟨g, 36, none⟩ = some (.slice A (chN a k j).length c) := TxA.c5 (RowC.of_blk h)
theorem chD_set (a : TxA) (k : K32) (j : Nat) (A A6 : Option Addr) (c c6 : Nat) : (chD a k j A c).cells.toArray.setIfInBounds 36 (.slice A6 (chN a k j ++ [k]).length c6) = (chD a k (j + 1) A6 c6).cells.toArray := by
  rw [chN_succ]
  exact tx_set_notes (chN a k (j + 1)) A6 c6
theorem ch_many {T : TxV} {b : Bool} (h : 40 < T.notes.length) : checkF T b = 51 := by
  have e : (encF T).2 = 51 := by unfold encF; rw [if_pos (by omega)]
  rw [checkF_enc (by rw [e]; decide), e]
set_option maxRecDepth 20000 in
set_option maxHeartbeats 4000000 in
theorem chMany_h (HCK : ChkTOk) (HPO : PointsOk) (a : TxA) (k : K32) (base : Bool) (w : World) (ha : a.In w w.heap.size) (hv : heavyF a.T = true) :
    Calls Try.prog 8 #[.agg a.cells.toArray, .agg (encK k).toArray, .bool base] w fun e w' => e = .returned (.bool true) ∧ Below w.heap.size w w' := by
  have SH := Lib.hid (fun W => chshown_any HCK HPO W)
  have IA := Lib.hid ha
  have HH := Lib.hid (show Holds w [(w.heap.size + 1, 26, (encK k).toArray), (w.heap.size, 29, a.cells.toArray)] ((w.alloc (.cells a.cells.toArray 29)).alloc (.cells (encK k).toArray 26)) from by
    have := ((Holds.nil w).box 29 a.cells.toArray).box 26 (encK k).toArray
    simpa only [World.size_alloc] using this)
  clear ha IA
  go_enter Try.func8, Try.ntmps8
  go_wp2_with ((with_reducible refine at_load 3 ?_); refine tyTx.wpList_load rfl (.tmp 3) rfl (w.heap.size) 0 rfl a (RowC.of_blk (HH.out.at (x := (w.heap.size, 29, a.cells.toArray)) (by simp))) ?_)
  with_reducible refine (chheavy_any a _).mono ?_
  rintro e w1 ⟨rfl, bq⟩
  have HQ := Lib.hid (HH.out.call bq)
  clear bq HH
  have HH := HQ
  clear HQ
  rw [hv]
  go_wp2_with fail
  with_reducible refine (SH.out _).mono ?_
  rintro e w2 ⟨rfl, bq⟩
  have HQ := Lib.hid (HH.out.call bq)
  clear bq HH
  have HH := HQ
  clear HQ
  go_wp2_with fail
  go_ret
  exact ⟨rfl, HH.out.below⟩
set_option maxRecDepth 20000 in
set_option maxHeartbeats 4000000 in
theorem chMany_m (HCK : ChkTOk) (HPO : PointsOk) (a : TxA) (k : K32) (base : Bool) (w : World) (ha : a.In w w.heap.size) (hv : heavyF a.T = false) :
    Calls Try.prog 8 #[.agg a.cells.toArray, .agg (encK k).toArray, .bool base] w fun e w' => e = .returned (.bool true) ∧ Below w.heap.size w w' := by
  have SH := Lib.hid (fun W => chshown_any HCK HPO W)
  have IA := Lib.hid ha
  have HH := Lib.hid (show Holds w [(w.heap.size + 1, 26, (encK k).toArray), (w.heap.size, 29, a.cells.toArray)] ((w.alloc (.cells a.cells.toArray 29)).alloc (.cells (encK k).toArray 26)) from by
    have := ((Holds.nil w).box 29 a.cells.toArray).box 26 (encK k).toArray
    simpa only [World.size_alloc] using this)
  have NA := Lib.hid (ch_few hv)
  clear ha
  go_enter Try.func8, Try.ntmps8
  go_wp2_with ((with_reducible refine at_load 3 ?_); refine tyTx.wpList_load rfl (.tmp 3) rfl (w.heap.size) 0 rfl a (RowC.of_blk (HH.out.at (x := (w.heap.size, 29, a.cells.toArray)) (by simp))) ?_)
  with_reducible refine (chheavy_any a _).mono ?_
  rintro e w1 ⟨rfl, bq⟩
  have HQ := Lib.hid (HH.out.call bq)
  clear bq HH
  have HH := HQ
  clear HQ
  rw [hv]
  go_wp2_with fail
  with_reducible refine (SH.out _).mono ?_
  rintro e w2 ⟨rfl, bq⟩
  have HQ := Lib.hid (HH.out.call bq)
  clear bq HH
  have HH := HQ
  clear HQ
  have H0 := Lib.hid (show Holds w [(w.heap.size + 1, 26, (encK k).toArray), (w.heap.size, 29, (chD a k 0 a.At a.ct).cells.toArray)] w2 from by rw [chD_zero]; exact HH.out)
  have R0 := Lib.hid (show RowIn encK 32 w2 w2.heap.size a.At a.ct (chN a k 0) from by
    have := (IA.out.on HH.out.below (Nat.le_refl _)).notes
    unfold chN
    simpa using this)
  clear HH
  go_wp2_with fail
  go_loopw [7] (fun si wr => ∃ (j : Nat) (A : Option Addr) (c : Nat), si = .int .i64 j ∧ j ≤ 41 ∧ Hid (Holds w [(w.heap.size + 1, 26, (encK k).toArray), (w.heap.size, 29, (chD a k j A c).cells.toArray)] wr) ∧ Hid (RowIn encK 32 wr wr.heap.size A c (chN a k j))) (fun si _ => 41 - (intOf si).toNat)
  case atStart => exact ⟨0, a.At, a.ct, rfl, by omega, H0, R0⟩
  case round =>
    clear H0 R0
    obtain ⟨j, A, c, rfl, hj, HH, HR⟩ := hrel
    by_cases hlt : j < 41
    · have hd : decide ((j : Int) < 41) = true := by simp; omega
      go_wp2_with fail
      have HL0 := Lib.hid (show ([] : List K32).length + (chN a k j).length ≤ 1000000 by have := NA.out; rw [chN_len]; simp; omega)
      have HL1 := Lib.hid (show (chN a k j).length + [k].length ≤ 1000000 by have := NA.out; rw [chN_len]; simp; omega)
      obtain ⟨wd, hwd⟩ : ∃ q, wr.drew = q := ⟨_, rfl⟩
      have HHD := Lib.hid (show Holds w [(w.heap.size + 1, 26, (encK k).toArray), (w.heap.size, 29, (chD a k j A c).cells.toArray)] wd from hwd ▸ ⟨HH.out.below.drew, HH.out.blks⟩)
      have HHB := Lib.hid HHD.out.below
      have EE := Lib.hid (Below.refl wd.heap.size wd)
      have HWD := Lib.hid (show w.heap.size + 2 ≤ wd.heap.size from (HHD.out.at (x := (w.heap.size + 1, 26, (encK k).toArray)) (by simp)).lt)
      have KK2 := Lib.hid (show ∀ V, Below wd.heap.size wd V → Blk V (w.heap.size + 1) 26 (encK k).toArray from fun V h => below_blk h (HHD.out.at (x := (w.heap.size + 1, 26, (encK k).toArray)) (by simp)) (HHD.out.at (x := (w.heap.size + 1, 26, (encK k).toArray)) (by simp)).lt)
      have SW := Lib.hid (show ∀ V, Below wd.heap.size wd V → RowC V (w.heap.size + 1) 0 (encK k) from fun V h => RowC.of_blk (KK2.out V h))
      have KT := Lib.hid (show ∀ V, Below wd.heap.size wd V → Blk V w.heap.size 29 (chD a k j A c).cells.toArray from fun V h => below_blk h (HHD.out.at (x := (w.heap.size, 29, (chD a k j A c).cells.toArray)) (by simp)) (HHD.out.at (x := (w.heap.size, 29, (chD a k j A c).cells.toArray)) (by simp)).lt)
      have KU := KT
      have RS := Lib.hid (show ∀ V, Below wd.heap.size wd V → RowIn encK 32 V wd.heap.size A c (chN a k j) from fun V h => (show RowIn encK 32 wd wd.heap.size A c (chN a k j) from hwd ▸ chRow_drew HR.out).below h)
      refine wp_region_held_drew (S := fun V => RowC V (w.heap.size + 1) 0 (encK k)) (by kernel_rfl) (hwd ▸ SW.out wd EE.out) ?_
      intro hS
      rw [hwd] at hS ⊢
      clear hwd HH HR
      refine wpAnyH_take (i := 1) (v := .pointer (some ⟨w.heap.size, 36, none⟩)) rfl (by kernel_rfl) (by kernel_rfl) (by kernel_rfl) (fun _ _ _ h => h) (Or.inl ⟨by rfl, fun W _ => by go_simp; try with_reducible rfl⟩) hS ?_
      simp only [Act.put, List.getElem_toArray, List.getElem_cons_zero, List.getElem_cons_succ, List.setIfInBounds_toArray, List.set_cons_succ, List.set_cons_zero]
      refine wpAnyH_take (i := 4) (v := .agg (encK k).toArray) rfl (by kernel_rfl) (by kernel_rfl) (by kernel_rfl) (fun _ _ _ h => h) (tyKc.yieldsIf_load (by rfl) (.tmp 4) rfl (w.heap.size + 1) 0 rfl k (fun _ h => h)) hS ?_
      simp only [Act.put, List.getElem_toArray, List.getElem_cons_zero, List.getElem_cons_succ, List.setIfInBounds_toArray, List.set_cons_succ, List.set_cons_zero]
      refine wpAnyH_ready (rs := [0, 2, 5]) (by kernel_rfl) (by simp) ?_
      refine AllReadyH.cons rfl (fun Kq hK => ?_) (AllReadyH.cons rfl (fun Kq hK => ?_) (AllReadyH.cons rfl (fun Kq hK => ?_) (AllReadyH.nil)))
      · go_simp
        have q0 := aa_nil (base := wd.heap.size) (k := 32) (Blk.new (wd) 26 #[]) EE.out.size
        have O0 := Lib.hid q0
        clear q0
        have EE2 := Lib.hid (EE.out.trans (show Below wd.heap.size (wd) ((wd).alloc (.cells #[] 26)) from (Below.refl wd.heap.size (wd)).alloc EE.out.size _))
        clear EE
        have EE := EE2
        clear EE2
        refine hK.out _ _ (SW.out _ EE.out) (fun hS => ?_)
        clear hK Kq
        try simp only [Act.put, List.getElem_toArray, List.getElem_cons_zero, List.getElem_cons_succ, List.setIfInBounds_toArray, List.set_cons_succ, List.set_cons_zero]
        refine wpAnyH_ready (rs := [2, 5]) (by kernel_rfl) (by simp) ?_
        refine AllReadyH.cons rfl (fun Kq hK => ?_) (AllReadyH.cons rfl (fun Kq hK => ?_) (AllReadyH.nil))
        · refine step_load_one (by rfl) 27 (.tmp 20) rfl ⟨w.heap.size, 36, none⟩ rfl (.slice A (chN a k j).length c) Try.isAgg27 (chD_c5 (KT.out _ EE.out)) ?_
          refine hK.out _ _ (SW.out _ EE.out) (fun hS => ?_)
          clear hK Kq
          try simp only [Act.put, List.getElem_toArray, List.getElem_cons_zero, List.getElem_cons_succ, List.setIfInBounds_toArray, List.set_cons_succ, List.set_cons_zero]
          refine wpAnyH_ready (rs := [3, 5]) (by kernel_rfl) (by simp) ?_
          refine AllReadyH.cons rfl (fun Kq hK => ?_) (AllReadyH.cons rfl (fun Kq hK => ?_) (AllReadyH.nil))
          · refine tyKy.step_append rfl zcKy 32 zbKy (by omega) (.tmp 19) (.tmp 21) rfl wd.heap.size _ ([] : List K32) rfl O0.out _ A c (chN a k j) rfl (RS.out _ EE.out) HL0.out EE.out.size ?_
            intro v3 y3 p3 g3
            have e3 := aa_grown O0.out g3 EE.out.size
            have O3 := Lib.hid (aa_congr p3 (List.nil_append _))
            clear O0 p3 g3
            have EE2 := Lib.hid (EE.out.trans (show Below wd.heap.size ((wd).alloc (.cells #[] 26)) (y3) from e3))
            clear EE
            have EE := EE2
            clear EE2
            refine hK.out _ _ (SW.out _ EE.out) (fun hS => ?_)
            clear hK Kq
            try simp only [Act.put, List.getElem_toArray, List.getElem_cons_zero, List.getElem_cons_succ, List.setIfInBounds_toArray, List.set_cons_succ, List.set_cons_zero]
            clear e3
            refine wpAnyH_ready (rs := [5]) (by kernel_rfl) (by simp) ?_
            refine AllReadyH.cons rfl (fun Kq hK => ?_) AllReadyH.nil
            refine tyKy.step_build rfl chzsK 1 _ rfl [k] rfl (by omega) (by omega) (by kernel_rfl) ?_
            have f5 := Lib.hid (Blk.new (y3) 26 (cellsOf encK [k]).toArray)
            have O9 := Lib.hid (O3.out.alloc (.cells (cellsOf encK [k]).toArray 26))
            clear O3
            have O3 := O9
            clear O9
            have EE2 := Lib.hid (EE.out.trans (show Below wd.heap.size (y3) ((y3).alloc (.cells (cellsOf encK [k]).toArray 26)) from (Below.refl wd.heap.size (y3)).alloc EE.out.size _))
            clear EE
            have EE := EE2
            clear EE2
            refine hK.out _ _ (SW.out _ EE.out) (fun hS => ?_)
            clear hK Kq
            try simp only [Act.put, List.getElem_toArray, List.getElem_cons_zero, List.getElem_cons_succ, List.setIfInBounds_toArray, List.set_cons_succ, List.set_cons_zero]
            refine wpAnyH_ready (rs := [6]) (by kernel_rfl) (by simp) ?_
            refine AllReadyH.cons rfl (fun Kq hK => ?_) AllReadyH.nil
            refine tyKy.step_append rfl zcKy 32 zbKy (by omega) (.tmp 22) (.tmp 24) rfl wd.heap.size _ (chN a k j) rfl O3.out _ _ 1 [k] rfl (rowIn_blk f5.out (by simp) (by decide)) HL1.out EE.out.size ?_
            intro v6 y6 p6 g6
            have e6 := aa_grown O3.out g6 EE.out.size
            obtain ⟨A6, c6, rfl⟩ := own_shape p6
            have O6 := Lib.hid p6
            clear O3 p6 g6 f5
            have EE2 := Lib.hid (EE.out.trans (show Below wd.heap.size ((y3).alloc (.cells (cellsOf encK [k]).toArray 26)) (y6) from e6))
            clear EE
            have EE := EE2
            clear EE2
            refine hK.out _ _ (SW.out _ EE.out) (fun hS => ?_)
            clear hK Kq
            try simp only [Act.put, List.getElem_toArray, List.getElem_cons_zero, List.getElem_cons_succ, List.setIfInBounds_toArray, List.set_cons_succ, List.set_cons_zero]
            clear e6
            refine wpAnyH_take (i := 7) (v := .pointer (some ⟨w.heap.size, 36, none⟩)) rfl (by kernel_rfl) (by kernel_rfl) (by kernel_rfl) (fun _ _ _ h => h) (Or.inl ⟨by rfl, fun W _ => by go_simp; try with_reducible rfl⟩) hS ?_
            simp only [Act.put, List.getElem_toArray, List.getElem_cons_zero, List.getElem_cons_succ, List.setIfInBounds_toArray, List.set_cons_succ, List.set_cons_zero]
            refine wpAnyH_ready (rs := [8]) (by kernel_rfl) (by simp) ?_
            refine AllReadyH.cons rfl (fun Kq hK => ?_) AllReadyH.nil
            refine step_store_cell rfl 27 (.tmp 26) (.tmp 25) rfl rfl w.heap.size 36 (.slice A6 ((chN a k j) ++ [k]).length c6) rfl rfl rfl 29 _ (KU.out _ EE.out) (by rw [List.size_toArray, TxA.len]; decide) (by kernel_rfl) ?_
            intro y7 o7 b7
            rw [chD_set] at b7
            have H7 := Lib.hid (show Holds w [(w.heap.size + 1, 26, (encK k).toArray), (w.heap.size, 29, (chD a k (j + 1) A6 c6).cells.toArray)] y7 from
              ⟨HHB.out.trans (EE.out.mono (by have := HHB.out.size; omega) |>.trans (o7.below (by simp))), fun x hx => by
                simp only [List.mem_cons, List.not_mem_nil, or_false] at hx
                rcases hx with rfl | rfl
                · exact o7.blk (KK2.out _ EE.out) (by simp)
                · exact b7⟩)
            have R7 := Lib.hid (show RowIn encK 32 y7 y7.heap.size A6 c6 (chN a k (j + 1)) from by
              obtain ⟨A9, c9, hv9, r9⟩ := RowIn.of_own encK_len O6.out
              injection hv9 with h1 _ h3
              subst h1 h3
              rw [chN_succ] at r9
              exact ⟨r9.le, r9.max, fun hne => by
                obtain ⟨g9, o9, e9, hg9, hc9⟩ := r9.cells hne
                refine ⟨g9, o9, e9, by rw [o7.size]; exact hg9, fun i v hi => ?_⟩
                have hgb := own_base O6.out g9 (by subst e9; rfl)
                rw [o7.cell (by have := HWD.out; simp; omega)]
                exact hc9 i v hi⟩)
            refine hK.out _ _ (by have h1 := hS; exact fun i v hi => (o7.cell (by simp)).trans (h1 i v hi)) (fun hS => ?_)
            clear hK Kq o7 b7 EE O6 hS
            refine wpAnyH_done (by kernel_rfl) ?_ _
            go_wp2_with fail
            go_roundw
            case rel => exact ⟨j + 1, A6, c6, by go_num, by omega, H7, R7⟩
            case measure => simp [intOf]; omega
          · refine tyKy.step_build rfl chzsK 1 _ rfl [k] rfl (by omega) (by omega) (by kernel_rfl) ?_
            have f5 := Lib.hid (Blk.new ((wd).alloc (.cells #[] 26)) 26 (cellsOf encK [k]).toArray)
            have O9 := Lib.hid (O0.out.alloc (.cells (cellsOf encK [k]).toArray 26))
            clear O0
            have O0 := O9
            clear O9
            have EE2 := Lib.hid (EE.out.trans (show Below wd.heap.size ((wd).alloc (.cells #[] 26)) (((wd).alloc (.cells #[] 26)).alloc (.cells (cellsOf encK [k]).toArray 26)) from (Below.refl wd.heap.size ((wd).alloc (.cells #[] 26))).alloc EE.out.size _))
            clear EE
            have EE := EE2
            clear EE2
            refine hK.out _ _ (SW.out _ EE.out) (fun hS => ?_)
            clear hK Kq
            try simp only [Act.put, List.getElem_toArray, List.getElem_cons_zero, List.getElem_cons_succ, List.setIfInBounds_toArray, List.set_cons_succ, List.set_cons_zero]
            refine wpAnyH_ready (rs := [3]) (by kernel_rfl) (by simp) ?_
            refine AllReadyH.cons rfl (fun Kq hK => ?_) AllReadyH.nil
            refine tyKy.step_append rfl zcKy 32 zbKy (by omega) (.tmp 19) (.tmp 21) rfl wd.heap.size _ ([] : List K32) rfl O0.out _ A c (chN a k j) rfl (RS.out _ EE.out) HL0.out EE.out.size ?_
            intro v3 y3 p3 g3
            have f6 := Lib.hid (blk_grown f5.out g3 (fun e => by have := Option.some.inj e; simp at this <;> omega))
            clear f5
            have f5 := f6
            clear f6
            have e3 := aa_grown O0.out g3 EE.out.size
            have O3 := Lib.hid (aa_congr p3 (List.nil_append _))
            clear O0 p3 g3
            have EE2 := Lib.hid (EE.out.trans (show Below wd.heap.size (((wd).alloc (.cells #[] 26)).alloc (.cells (cellsOf encK [k]).toArray 26)) (y3) from e3))
            clear EE
            have EE := EE2
            clear EE2
            refine hK.out _ _ (SW.out _ EE.out) (fun hS => ?_)
            clear hK Kq
            try simp only [Act.put, List.getElem_toArray, List.getElem_cons_zero, List.getElem_cons_succ, List.setIfInBounds_toArray, List.set_cons_succ, List.set_cons_zero]
            clear e3
            refine wpAnyH_ready (rs := [6]) (by kernel_rfl) (by simp) ?_
            refine AllReadyH.cons rfl (fun Kq hK => ?_) AllReadyH.nil
            refine tyKy.step_append rfl zcKy 32 zbKy (by omega) (.tmp 22) (.tmp 24) rfl wd.heap.size _ (chN a k j) rfl O3.out _ _ 1 [k] rfl (rowIn_blk f5.out (by simp) (by decide)) HL1.out EE.out.size ?_
            intro v6 y6 p6 g6
            have e6 := aa_grown O3.out g6 EE.out.size
            obtain ⟨A6, c6, rfl⟩ := own_shape p6
            have O6 := Lib.hid p6
            clear O3 p6 g6 f5
            have EE2 := Lib.hid (EE.out.trans (show Below wd.heap.size (y3) (y6) from e6))
            clear EE
            have EE := EE2
            clear EE2
            refine hK.out _ _ (SW.out _ EE.out) (fun hS => ?_)
            clear hK Kq
            try simp only [Act.put, List.getElem_toArray, List.getElem_cons_zero, List.getElem_cons_succ, List.setIfInBounds_toArray, List.set_cons_succ, List.set_cons_zero]
            clear e6
            refine wpAnyH_take (i := 7) (v := .pointer (some ⟨w.heap.size, 36, none⟩)) rfl (by kernel_rfl) (by kernel_rfl) (by kernel_rfl) (fun _ _ _ h => h) (Or.inl ⟨by rfl, fun W _ => by go_simp; try with_reducible rfl⟩) hS ?_
            simp only [Act.put, List.getElem_toArray, List.getElem_cons_zero, List.getElem_cons_succ, List.setIfInBounds_toArray, List.set_cons_succ, List.set_cons_zero]
            refine wpAnyH_ready (rs := [8]) (by kernel_rfl) (by simp) ?_
            refine AllReadyH.cons rfl (fun Kq hK => ?_) AllReadyH.nil
            refine step_store_cell rfl 27 (.tmp 26) (.tmp 25) rfl rfl w.heap.size 36 (.slice A6 ((chN a k j) ++ [k]).length c6) rfl rfl rfl 29 _ (KU.out _ EE.out) (by rw [List.size_toArray, TxA.len]; decide) (by kernel_rfl) ?_
            intro y7 o7 b7
            rw [chD_set] at b7
            have H7 := Lib.hid (show Holds w [(w.heap.size + 1, 26, (encK k).toArray), (w.heap.size, 29, (chD a k (j + 1) A6 c6).cells.toArray)] y7 from
              ⟨HHB.out.trans (EE.out.mono (by have := HHB.out.size; omega) |>.trans (o7.below (by simp))), fun x hx => by
                simp only [List.mem_cons, List.not_mem_nil, or_false] at hx
                rcases hx with rfl | rfl
                · exact o7.blk (KK2.out _ EE.out) (by simp)
                · exact b7⟩)
            have R7 := Lib.hid (show RowIn encK 32 y7 y7.heap.size A6 c6 (chN a k (j + 1)) from by
              obtain ⟨A9, c9, hv9, r9⟩ := RowIn.of_own encK_len O6.out
              injection hv9 with h1 _ h3
              subst h1 h3
              rw [chN_succ] at r9
              exact ⟨r9.le, r9.max, fun hne => by
                obtain ⟨g9, o9, e9, hg9, hc9⟩ := r9.cells hne
                refine ⟨g9, o9, e9, by rw [o7.size]; exact hg9, fun i v hi => ?_⟩
                have hgb := own_base O6.out g9 (by subst e9; rfl)
                rw [o7.cell (by have := HWD.out; simp; omega)]
                exact hc9 i v hi⟩)
            refine hK.out _ _ (by have h1 := hS; exact fun i v hi => (o7.cell (by simp)).trans (h1 i v hi)) (fun hS => ?_)
            clear hK Kq o7 b7 EE O6 hS
            refine wpAnyH_done (by kernel_rfl) ?_ _
            go_wp2_with fail
            go_roundw
            case rel => exact ⟨j + 1, A6, c6, by go_num, by omega, H7, R7⟩
            case measure => simp [intOf]; omega
        · refine tyKy.step_build rfl chzsK 1 _ rfl [k] rfl (by omega) (by omega) (by kernel_rfl) ?_
          have f5 := Lib.hid (Blk.new ((wd).alloc (.cells #[] 26)) 26 (cellsOf encK [k]).toArray)
          have O9 := Lib.hid (O0.out.alloc (.cells (cellsOf encK [k]).toArray 26))
          clear O0
          have O0 := O9
          clear O9
          have EE2 := Lib.hid (EE.out.trans (show Below wd.heap.size ((wd).alloc (.cells #[] 26)) (((wd).alloc (.cells #[] 26)).alloc (.cells (cellsOf encK [k]).toArray 26)) from (Below.refl wd.heap.size ((wd).alloc (.cells #[] 26))).alloc EE.out.size _))
          clear EE
          have EE := EE2
          clear EE2
          refine hK.out _ _ (SW.out _ EE.out) (fun hS => ?_)
          clear hK Kq
          try simp only [Act.put, List.getElem_toArray, List.getElem_cons_zero, List.getElem_cons_succ, List.setIfInBounds_toArray, List.set_cons_succ, List.set_cons_zero]
          refine wpAnyH_ready (rs := [2]) (by kernel_rfl) (by simp) ?_
          refine AllReadyH.cons rfl (fun Kq hK => ?_) AllReadyH.nil
          refine step_load_one (by rfl) 27 (.tmp 20) rfl ⟨w.heap.size, 36, none⟩ rfl (.slice A (chN a k j).length c) Try.isAgg27 (chD_c5 (KT.out _ EE.out)) ?_
          refine hK.out _ _ (SW.out _ EE.out) (fun hS => ?_)
          clear hK Kq
          try simp only [Act.put, List.getElem_toArray, List.getElem_cons_zero, List.getElem_cons_succ, List.setIfInBounds_toArray, List.set_cons_succ, List.set_cons_zero]
          refine wpAnyH_ready (rs := [3]) (by kernel_rfl) (by simp) ?_
          refine AllReadyH.cons rfl (fun Kq hK => ?_) AllReadyH.nil
          refine tyKy.step_append rfl zcKy 32 zbKy (by omega) (.tmp 19) (.tmp 21) rfl wd.heap.size _ ([] : List K32) rfl O0.out _ A c (chN a k j) rfl (RS.out _ EE.out) HL0.out EE.out.size ?_
          intro v3 y3 p3 g3
          have f6 := Lib.hid (blk_grown f5.out g3 (fun e => by have := Option.some.inj e; simp at this <;> omega))
          clear f5
          have f5 := f6
          clear f6
          have e3 := aa_grown O0.out g3 EE.out.size
          have O3 := Lib.hid (aa_congr p3 (List.nil_append _))
          clear O0 p3 g3
          have EE2 := Lib.hid (EE.out.trans (show Below wd.heap.size (((wd).alloc (.cells #[] 26)).alloc (.cells (cellsOf encK [k]).toArray 26)) (y3) from e3))
          clear EE
          have EE := EE2
          clear EE2
          refine hK.out _ _ (SW.out _ EE.out) (fun hS => ?_)
          clear hK Kq
          try simp only [Act.put, List.getElem_toArray, List.getElem_cons_zero, List.getElem_cons_succ, List.setIfInBounds_toArray, List.set_cons_succ, List.set_cons_zero]
          clear e3
          refine wpAnyH_ready (rs := [6]) (by kernel_rfl) (by simp) ?_
          refine AllReadyH.cons rfl (fun Kq hK => ?_) AllReadyH.nil
          refine tyKy.step_append rfl zcKy 32 zbKy (by omega) (.tmp 22) (.tmp 24) rfl wd.heap.size _ (chN a k j) rfl O3.out _ _ 1 [k] rfl (rowIn_blk f5.out (by simp) (by decide)) HL1.out EE.out.size ?_
          intro v6 y6 p6 g6
          have e6 := aa_grown O3.out g6 EE.out.size
          obtain ⟨A6, c6, rfl⟩ := own_shape p6
          have O6 := Lib.hid p6
          clear O3 p6 g6 f5
          have EE2 := Lib.hid (EE.out.trans (show Below wd.heap.size (y3) (y6) from e6))
          clear EE
          have EE := EE2
          clear EE2
          refine hK.out _ _ (SW.out _ EE.out) (fun hS => ?_)
          clear hK Kq
          try simp only [Act.put, List.getElem_toArray, List.getElem_cons_zero, List.getElem_cons_succ, List.setIfInBounds_toArray, List.set_cons_succ, List.set_cons_zero]
          clear e6
          refine wpAnyH_take (i := 7) (v := .pointer (some ⟨w.heap.size, 36, none⟩)) rfl (by kernel_rfl) (by kernel_rfl) (by kernel_rfl) (fun _ _ _ h => h) (Or.inl ⟨by rfl, fun W _ => by go_simp; try with_reducible rfl⟩) hS ?_
          simp only [Act.put, List.getElem_toArray, List.getElem_cons_zero, List.getElem_cons_succ, List.setIfInBounds_toArray, List.set_cons_succ, List.set_cons_zero]
          refine wpAnyH_ready (rs := [8]) (by kernel_rfl) (by simp) ?_
          refine AllReadyH.cons rfl (fun Kq hK => ?_) AllReadyH.nil
          refine step_store_cell rfl 27 (.tmp 26) (.tmp 25) rfl rfl w.heap.size 36 (.slice A6 ((chN a k j) ++ [k]).length c6) rfl rfl rfl 29 _ (KU.out _ EE.out) (by rw [List.size_toArray, TxA.len]; decide) (by kernel_rfl) ?_
          intro y7 o7 b7
          rw [chD_set] at b7
          have H7 := Lib.hid (show Holds w [(w.heap.size + 1, 26, (encK k).toArray), (w.heap.size, 29, (chD a k (j + 1) A6 c6).cells.toArray)] y7 from
            ⟨HHB.out.trans (EE.out.mono (by have := HHB.out.size; omega) |>.trans (o7.below (by simp))), fun x hx => by
              simp only [List.mem_cons, List.not_mem_nil, or_false] at hx
              rcases hx with rfl | rfl
              · exact o7.blk (KK2.out _ EE.out) (by simp)
              · exact b7⟩)
          have R7 := Lib.hid (show RowIn encK 32 y7 y7.heap.size A6 c6 (chN a k (j + 1)) from by
            obtain ⟨A9, c9, hv9, r9⟩ := RowIn.of_own encK_len O6.out
            injection hv9 with h1 _ h3
            subst h1 h3
            rw [chN_succ] at r9
            exact ⟨r9.le, r9.max, fun hne => by
              obtain ⟨g9, o9, e9, hg9, hc9⟩ := r9.cells hne
              refine ⟨g9, o9, e9, by rw [o7.size]; exact hg9, fun i v hi => ?_⟩
              have hgb := own_base O6.out g9 (by subst e9; rfl)
              rw [o7.cell (by have := HWD.out; simp; omega)]
              exact hc9 i v hi⟩)
          refine hK.out _ _ (by have h1 := hS; exact fun i v hi => (o7.cell (by simp)).trans (h1 i v hi)) (fun hS => ?_)
          clear hK Kq o7 b7 EE O6 hS
          refine wpAnyH_done (by kernel_rfl) ?_ _
          go_wp2_with fail
          go_roundw
          case rel => exact ⟨j + 1, A6, c6, by go_num, by omega, H7, R7⟩
          case measure => simp [intOf]; omega
      · refine step_load_one (by rfl) 27 (.tmp 20) rfl ⟨w.heap.size, 36, none⟩ rfl (.slice A (chN a k j).length c) Try.isAgg27 (chD_c5 (KT.out _ EE.out)) ?_
        refine hK.out _ _ (SW.out _ EE.out) (fun hS => ?_)
        clear hK Kq
        try simp only [Act.put, List.getElem_toArray, List.getElem_cons_zero, List.getElem_cons_succ, List.setIfInBounds_toArray, List.set_cons_succ, List.set_cons_zero]
        refine wpAnyH_ready (rs := [0, 5]) (by kernel_rfl) (by simp) ?_
        refine AllReadyH.cons rfl (fun Kq hK => ?_) (AllReadyH.cons rfl (fun Kq hK => ?_) (AllReadyH.nil))
        · go_simp
          have q0 := aa_nil (base := wd.heap.size) (k := 32) (Blk.new (wd) 26 #[]) EE.out.size
          have O0 := Lib.hid q0
          clear q0
          have EE2 := Lib.hid (EE.out.trans (show Below wd.heap.size (wd) ((wd).alloc (.cells #[] 26)) from (Below.refl wd.heap.size (wd)).alloc EE.out.size _))
          clear EE
          have EE := EE2
          clear EE2
          refine hK.out _ _ (SW.out _ EE.out) (fun hS => ?_)
          clear hK Kq
          try simp only [Act.put, List.getElem_toArray, List.getElem_cons_zero, List.getElem_cons_succ, List.setIfInBounds_toArray, List.set_cons_succ, List.set_cons_zero]
          refine wpAnyH_ready (rs := [3, 5]) (by kernel_rfl) (by simp) ?_
          refine AllReadyH.cons rfl (fun Kq hK => ?_) (AllReadyH.cons rfl (fun Kq hK => ?_) (AllReadyH.nil))
          · refine tyKy.step_append rfl zcKy 32 zbKy (by omega) (.tmp 19) (.tmp 21) rfl wd.heap.size _ ([] : List K32) rfl O0.out _ A c (chN a k j) rfl (RS.out _ EE.out) HL0.out EE.out.size ?_
            intro v3 y3 p3 g3
            have e3 := aa_grown O0.out g3 EE.out.size
            have O3 := Lib.hid (aa_congr p3 (List.nil_append _))
            clear O0 p3 g3
            have EE2 := Lib.hid (EE.out.trans (show Below wd.heap.size ((wd).alloc (.cells #[] 26)) (y3) from e3))
            clear EE
            have EE := EE2
            clear EE2
            refine hK.out _ _ (SW.out _ EE.out) (fun hS => ?_)
            clear hK Kq
            try simp only [Act.put, List.getElem_toArray, List.getElem_cons_zero, List.getElem_cons_succ, List.setIfInBounds_toArray, List.set_cons_succ, List.set_cons_zero]
            clear e3
            refine wpAnyH_ready (rs := [5]) (by kernel_rfl) (by simp) ?_
            refine AllReadyH.cons rfl (fun Kq hK => ?_) AllReadyH.nil
            refine tyKy.step_build rfl chzsK 1 _ rfl [k] rfl (by omega) (by omega) (by kernel_rfl) ?_
            have f5 := Lib.hid (Blk.new (y3) 26 (cellsOf encK [k]).toArray)
            have O9 := Lib.hid (O3.out.alloc (.cells (cellsOf encK [k]).toArray 26))
            clear O3
            have O3 := O9
            clear O9
            have EE2 := Lib.hid (EE.out.trans (show Below wd.heap.size (y3) ((y3).alloc (.cells (cellsOf encK [k]).toArray 26)) from (Below.refl wd.heap.size (y3)).alloc EE.out.size _))
            clear EE
            have EE := EE2
            clear EE2
            refine hK.out _ _ (SW.out _ EE.out) (fun hS => ?_)
            clear hK Kq
            try simp only [Act.put, List.getElem_toArray, List.getElem_cons_zero, List.getElem_cons_succ, List.setIfInBounds_toArray, List.set_cons_succ, List.set_cons_zero]
            refine wpAnyH_ready (rs := [6]) (by kernel_rfl) (by simp) ?_
            refine AllReadyH.cons rfl (fun Kq hK => ?_) AllReadyH.nil
            refine tyKy.step_append rfl zcKy 32 zbKy (by omega) (.tmp 22) (.tmp 24) rfl wd.heap.size _ (chN a k j) rfl O3.out _ _ 1 [k] rfl (rowIn_blk f5.out (by simp) (by decide)) HL1.out EE.out.size ?_
            intro v6 y6 p6 g6
            have e6 := aa_grown O3.out g6 EE.out.size
            obtain ⟨A6, c6, rfl⟩ := own_shape p6
            have O6 := Lib.hid p6
            clear O3 p6 g6 f5
            have EE2 := Lib.hid (EE.out.trans (show Below wd.heap.size ((y3).alloc (.cells (cellsOf encK [k]).toArray 26)) (y6) from e6))
            clear EE
            have EE := EE2
            clear EE2
            refine hK.out _ _ (SW.out _ EE.out) (fun hS => ?_)
            clear hK Kq
            try simp only [Act.put, List.getElem_toArray, List.getElem_cons_zero, List.getElem_cons_succ, List.setIfInBounds_toArray, List.set_cons_succ, List.set_cons_zero]
            clear e6
            refine wpAnyH_take (i := 7) (v := .pointer (some ⟨w.heap.size, 36, none⟩)) rfl (by kernel_rfl) (by kernel_rfl) (by kernel_rfl) (fun _ _ _ h => h) (Or.inl ⟨by rfl, fun W _ => by go_simp; try with_reducible rfl⟩) hS ?_
            simp only [Act.put, List.getElem_toArray, List.getElem_cons_zero, List.getElem_cons_succ, List.setIfInBounds_toArray, List.set_cons_succ, List.set_cons_zero]
            refine wpAnyH_ready (rs := [8]) (by kernel_rfl) (by simp) ?_
            refine AllReadyH.cons rfl (fun Kq hK => ?_) AllReadyH.nil
            refine step_store_cell rfl 27 (.tmp 26) (.tmp 25) rfl rfl w.heap.size 36 (.slice A6 ((chN a k j) ++ [k]).length c6) rfl rfl rfl 29 _ (KU.out _ EE.out) (by rw [List.size_toArray, TxA.len]; decide) (by kernel_rfl) ?_
            intro y7 o7 b7
            rw [chD_set] at b7
            have H7 := Lib.hid (show Holds w [(w.heap.size + 1, 26, (encK k).toArray), (w.heap.size, 29, (chD a k (j + 1) A6 c6).cells.toArray)] y7 from
              ⟨HHB.out.trans (EE.out.mono (by have := HHB.out.size; omega) |>.trans (o7.below (by simp))), fun x hx => by
                simp only [List.mem_cons, List.not_mem_nil, or_false] at hx
                rcases hx with rfl | rfl
                · exact o7.blk (KK2.out _ EE.out) (by simp)
                · exact b7⟩)
            have R7 := Lib.hid (show RowIn encK 32 y7 y7.heap.size A6 c6 (chN a k (j + 1)) from by
              obtain ⟨A9, c9, hv9, r9⟩ := RowIn.of_own encK_len O6.out
              injection hv9 with h1 _ h3
              subst h1 h3
              rw [chN_succ] at r9
              exact ⟨r9.le, r9.max, fun hne => by
                obtain ⟨g9, o9, e9, hg9, hc9⟩ := r9.cells hne
                refine ⟨g9, o9, e9, by rw [o7.size]; exact hg9, fun i v hi => ?_⟩
                have hgb := own_base O6.out g9 (by subst e9; rfl)
                rw [o7.cell (by have := HWD.out; simp; omega)]
                exact hc9 i v hi⟩)
            refine hK.out _ _ (by have h1 := hS; exact fun i v hi => (o7.cell (by simp)).trans (h1 i v hi)) (fun hS => ?_)
            clear hK Kq o7 b7 EE O6 hS
            refine wpAnyH_done (by kernel_rfl) ?_ _
            go_wp2_with fail
            go_roundw
            case rel => exact ⟨j + 1, A6, c6, by go_num, by omega, H7, R7⟩
            case measure => simp [intOf]; omega
          · refine tyKy.step_build rfl chzsK 1 _ rfl [k] rfl (by omega) (by omega) (by kernel_rfl) ?_
            have f5 := Lib.hid (Blk.new ((wd).alloc (.cells #[] 26)) 26 (cellsOf encK [k]).toArray)
            have O9 := Lib.hid (O0.out.alloc (.cells (cellsOf encK [k]).toArray 26))
            clear O0
            have O0 := O9
            clear O9
            have EE2 := Lib.hid (EE.out.trans (show Below wd.heap.size ((wd).alloc (.cells #[] 26)) (((wd).alloc (.cells #[] 26)).alloc (.cells (cellsOf encK [k]).toArray 26)) from (Below.refl wd.heap.size ((wd).alloc (.cells #[] 26))).alloc EE.out.size _))
            clear EE
            have EE := EE2
            clear EE2
            refine hK.out _ _ (SW.out _ EE.out) (fun hS => ?_)
            clear hK Kq
            try simp only [Act.put, List.getElem_toArray, List.getElem_cons_zero, List.getElem_cons_succ, List.setIfInBounds_toArray, List.set_cons_succ, List.set_cons_zero]
            refine wpAnyH_ready (rs := [3]) (by kernel_rfl) (by simp) ?_
            refine AllReadyH.cons rfl (fun Kq hK => ?_) AllReadyH.nil
            refine tyKy.step_append rfl zcKy 32 zbKy (by omega) (.tmp 19) (.tmp 21) rfl wd.heap.size _ ([] : List K32) rfl O0.out _ A c (chN a k j) rfl (RS.out _ EE.out) HL0.out EE.out.size ?_
            intro v3 y3 p3 g3
            have f6 := Lib.hid (blk_grown f5.out g3 (fun e => by have := Option.some.inj e; simp at this <;> omega))
            clear f5
            have f5 := f6
            clear f6
            have e3 := aa_grown O0.out g3 EE.out.size
            have O3 := Lib.hid (aa_congr p3 (List.nil_append _))
            clear O0 p3 g3
            have EE2 := Lib.hid (EE.out.trans (show Below wd.heap.size (((wd).alloc (.cells #[] 26)).alloc (.cells (cellsOf encK [k]).toArray 26)) (y3) from e3))
            clear EE
            have EE := EE2
            clear EE2
            refine hK.out _ _ (SW.out _ EE.out) (fun hS => ?_)
            clear hK Kq
            try simp only [Act.put, List.getElem_toArray, List.getElem_cons_zero, List.getElem_cons_succ, List.setIfInBounds_toArray, List.set_cons_succ, List.set_cons_zero]
            clear e3
            refine wpAnyH_ready (rs := [6]) (by kernel_rfl) (by simp) ?_
            refine AllReadyH.cons rfl (fun Kq hK => ?_) AllReadyH.nil
            refine tyKy.step_append rfl zcKy 32 zbKy (by omega) (.tmp 22) (.tmp 24) rfl wd.heap.size _ (chN a k j) rfl O3.out _ _ 1 [k] rfl (rowIn_blk f5.out (by simp) (by decide)) HL1.out EE.out.size ?_
            intro v6 y6 p6 g6
            have e6 := aa_grown O3.out g6 EE.out.size
            obtain ⟨A6, c6, rfl⟩ := own_shape p6
            have O6 := Lib.hid p6
            clear O3 p6 g6 f5
            have EE2 := Lib.hid (EE.out.trans (show Below wd.heap.size (y3) (y6) from e6))
            clear EE
            have EE := EE2
            clear EE2
            refine hK.out _ _ (SW.out _ EE.out) (fun hS => ?_)
            clear hK Kq
            try simp only [Act.put, List.getElem_toArray, List.getElem_cons_zero, List.getElem_cons_succ, List.setIfInBounds_toArray, List.set_cons_succ, List.set_cons_zero]
            clear e6
            refine wpAnyH_take (i := 7) (v := .pointer (some ⟨w.heap.size, 36, none⟩)) rfl (by kernel_rfl) (by kernel_rfl) (by kernel_rfl) (fun _ _ _ h => h) (Or.inl ⟨by rfl, fun W _ => by go_simp; try with_reducible rfl⟩) hS ?_
            simp only [Act.put, List.getElem_toArray, List.getElem_cons_zero, List.getElem_cons_succ, List.setIfInBounds_toArray, List.set_cons_succ, List.set_cons_zero]
            refine wpAnyH_ready (rs := [8]) (by kernel_rfl) (by simp) ?_
            refine AllReadyH.cons rfl (fun Kq hK => ?_) AllReadyH.nil
            refine step_store_cell rfl 27 (.tmp 26) (.tmp 25) rfl rfl w.heap.size 36 (.slice A6 ((chN a k j) ++ [k]).length c6) rfl rfl rfl 29 _ (KU.out _ EE.out) (by rw [List.size_toArray, TxA.len]; decide) (by kernel_rfl) ?_
            intro y7 o7 b7
            rw [chD_set] at b7
            have H7 := Lib.hid (show Holds w [(w.heap.size + 1, 26, (encK k).toArray), (w.heap.size, 29, (chD a k (j + 1) A6 c6).cells.toArray)] y7 from
              ⟨HHB.out.trans (EE.out.mono (by have := HHB.out.size; omega) |>.trans (o7.below (by simp))), fun x hx => by
                simp only [List.mem_cons, List.not_mem_nil, or_false] at hx
                rcases hx with rfl | rfl
                · exact o7.blk (KK2.out _ EE.out) (by simp)
                · exact b7⟩)
            have R7 := Lib.hid (show RowIn encK 32 y7 y7.heap.size A6 c6 (chN a k (j + 1)) from by
              obtain ⟨A9, c9, hv9, r9⟩ := RowIn.of_own encK_len O6.out
              injection hv9 with h1 _ h3
              subst h1 h3
              rw [chN_succ] at r9
              exact ⟨r9.le, r9.max, fun hne => by
                obtain ⟨g9, o9, e9, hg9, hc9⟩ := r9.cells hne
                refine ⟨g9, o9, e9, by rw [o7.size]; exact hg9, fun i v hi => ?_⟩
                have hgb := own_base O6.out g9 (by subst e9; rfl)
                rw [o7.cell (by have := HWD.out; simp; omega)]
                exact hc9 i v hi⟩)
            refine hK.out _ _ (by have h1 := hS; exact fun i v hi => (o7.cell (by simp)).trans (h1 i v hi)) (fun hS => ?_)
            clear hK Kq o7 b7 EE O6 hS
            refine wpAnyH_done (by kernel_rfl) ?_ _
            go_wp2_with fail
            go_roundw
            case rel => exact ⟨j + 1, A6, c6, by go_num, by omega, H7, R7⟩
            case measure => simp [intOf]; omega
        · refine tyKy.step_build rfl chzsK 1 _ rfl [k] rfl (by omega) (by omega) (by kernel_rfl) ?_
          have f5 := Lib.hid (Blk.new (wd) 26 (cellsOf encK [k]).toArray)
          have EE2 := Lib.hid (EE.out.trans (show Below wd.heap.size (wd) ((wd).alloc (.cells (cellsOf encK [k]).toArray 26)) from (Below.refl wd.heap.size (wd)).alloc EE.out.size _))
          clear EE
          have EE := EE2
          clear EE2
          refine hK.out _ _ (SW.out _ EE.out) (fun hS => ?_)
          clear hK Kq
          try simp only [Act.put, List.getElem_toArray, List.getElem_cons_zero, List.getElem_cons_succ, List.setIfInBounds_toArray, List.set_cons_succ, List.set_cons_zero]
          refine wpAnyH_ready (rs := [0]) (by kernel_rfl) (by simp) ?_
          refine AllReadyH.cons rfl (fun Kq hK => ?_) AllReadyH.nil
          go_simp
          have q0 := aa_nil (base := wd.heap.size) (k := 32) (Blk.new ((wd).alloc (.cells (cellsOf encK [k]).toArray 26)) 26 #[]) EE.out.size
          simp only [World.size_alloc] at q0
          have O0 := Lib.hid q0
          clear q0
          have f6 := Lib.hid (f5.out.alloc (.cells #[] 26))
          clear f5
          have f5 := f6
          clear f6
          have EE2 := Lib.hid (EE.out.trans (show Below wd.heap.size ((wd).alloc (.cells (cellsOf encK [k]).toArray 26)) (((wd).alloc (.cells (cellsOf encK [k]).toArray 26)).alloc (.cells #[] 26)) from (Below.refl wd.heap.size ((wd).alloc (.cells (cellsOf encK [k]).toArray 26))).alloc EE.out.size _))
          clear EE
          have EE := EE2
          clear EE2
          refine hK.out _ _ (SW.out _ EE.out) (fun hS => ?_)
          clear hK Kq
          try simp only [Act.put, List.getElem_toArray, List.getElem_cons_zero, List.getElem_cons_succ, List.setIfInBounds_toArray, List.set_cons_succ, List.set_cons_zero]
          refine wpAnyH_ready (rs := [3]) (by kernel_rfl) (by simp) ?_
          refine AllReadyH.cons rfl (fun Kq hK => ?_) AllReadyH.nil
          refine tyKy.step_append rfl zcKy 32 zbKy (by omega) (.tmp 19) (.tmp 21) rfl wd.heap.size _ ([] : List K32) rfl O0.out _ A c (chN a k j) rfl (RS.out _ EE.out) HL0.out EE.out.size ?_
          intro v3 y3 p3 g3
          have f6 := Lib.hid (blk_grown f5.out g3 (fun e => by have := Option.some.inj e; simp at this <;> omega))
          clear f5
          have f5 := f6
          clear f6
          have e3 := aa_grown O0.out g3 EE.out.size
          have O3 := Lib.hid (aa_congr p3 (List.nil_append _))
          clear O0 p3 g3
          have EE2 := Lib.hid (EE.out.trans (show Below wd.heap.size (((wd).alloc (.cells (cellsOf encK [k]).toArray 26)).alloc (.cells #[] 26)) (y3) from e3))
          clear EE
          have EE := EE2
          clear EE2
          refine hK.out _ _ (SW.out _ EE.out) (fun hS => ?_)
          clear hK Kq
          try simp only [Act.put, List.getElem_toArray, List.getElem_cons_zero, List.getElem_cons_succ, List.setIfInBounds_toArray, List.set_cons_succ, List.set_cons_zero]
          clear e3
          refine wpAnyH_ready (rs := [6]) (by kernel_rfl) (by simp) ?_
          refine AllReadyH.cons rfl (fun Kq hK => ?_) AllReadyH.nil
          refine tyKy.step_append rfl zcKy 32 zbKy (by omega) (.tmp 22) (.tmp 24) rfl wd.heap.size _ (chN a k j) rfl O3.out _ _ 1 [k] rfl (rowIn_blk f5.out (by simp) (by decide)) HL1.out EE.out.size ?_
          intro v6 y6 p6 g6
          have e6 := aa_grown O3.out g6 EE.out.size
          obtain ⟨A6, c6, rfl⟩ := own_shape p6
          have O6 := Lib.hid p6
          clear O3 p6 g6 f5
          have EE2 := Lib.hid (EE.out.trans (show Below wd.heap.size (y3) (y6) from e6))
          clear EE
          have EE := EE2
          clear EE2
          refine hK.out _ _ (SW.out _ EE.out) (fun hS => ?_)
          clear hK Kq
          try simp only [Act.put, List.getElem_toArray, List.getElem_cons_zero, List.getElem_cons_succ, List.setIfInBounds_toArray, List.set_cons_succ, List.set_cons_zero]
          clear e6
          refine wpAnyH_take (i := 7) (v := .pointer (some ⟨w.heap.size, 36, none⟩)) rfl (by kernel_rfl) (by kernel_rfl) (by kernel_rfl) (fun _ _ _ h => h) (Or.inl ⟨by rfl, fun W _ => by go_simp; try with_reducible rfl⟩) hS ?_
          simp only [Act.put, List.getElem_toArray, List.getElem_cons_zero, List.getElem_cons_succ, List.setIfInBounds_toArray, List.set_cons_succ, List.set_cons_zero]
          refine wpAnyH_ready (rs := [8]) (by kernel_rfl) (by simp) ?_
          refine AllReadyH.cons rfl (fun Kq hK => ?_) AllReadyH.nil
          refine step_store_cell rfl 27 (.tmp 26) (.tmp 25) rfl rfl w.heap.size 36 (.slice A6 ((chN a k j) ++ [k]).length c6) rfl rfl rfl 29 _ (KU.out _ EE.out) (by rw [List.size_toArray, TxA.len]; decide) (by kernel_rfl) ?_
          intro y7 o7 b7
          rw [chD_set] at b7
          have H7 := Lib.hid (show Holds w [(w.heap.size + 1, 26, (encK k).toArray), (w.heap.size, 29, (chD a k (j + 1) A6 c6).cells.toArray)] y7 from
            ⟨HHB.out.trans (EE.out.mono (by have := HHB.out.size; omega) |>.trans (o7.below (by simp))), fun x hx => by
              simp only [List.mem_cons, List.not_mem_nil, or_false] at hx
              rcases hx with rfl | rfl
              · exact o7.blk (KK2.out _ EE.out) (by simp)
              · exact b7⟩)
          have R7 := Lib.hid (show RowIn encK 32 y7 y7.heap.size A6 c6 (chN a k (j + 1)) from by
            obtain ⟨A9, c9, hv9, r9⟩ := RowIn.of_own encK_len O6.out
            injection hv9 with h1 _ h3
            subst h1 h3
            rw [chN_succ] at r9
            exact ⟨r9.le, r9.max, fun hne => by
              obtain ⟨g9, o9, e9, hg9, hc9⟩ := r9.cells hne
              refine ⟨g9, o9, e9, by rw [o7.size]; exact hg9, fun i v hi => ?_⟩
              have hgb := own_base O6.out g9 (by subst e9; rfl)
              rw [o7.cell (by have := HWD.out; simp; omega)]
              exact hc9 i v hi⟩)
          refine hK.out _ _ (by have h1 := hS; exact fun i v hi => (o7.cell (by simp)).trans (h1 i v hi)) (fun hS => ?_)
          clear hK Kq o7 b7 EE O6 hS
          refine wpAnyH_done (by kernel_rfl) ?_ _
          go_wp2_with fail
          go_roundw
          case rel => exact ⟨j + 1, A6, c6, by go_num, by omega, H7, R7⟩
          case measure => simp [intOf]; omega
      · refine tyKy.step_build rfl chzsK 1 _ rfl [k] rfl (by omega) (by omega) (by kernel_rfl) ?_
        have f5 := Lib.hid (Blk.new (wd) 26 (cellsOf encK [k]).toArray)
        have EE2 := Lib.hid (EE.out.trans (show Below wd.heap.size (wd) ((wd).alloc (.cells (cellsOf encK [k]).toArray 26)) from (Below.refl wd.heap.size (wd)).alloc EE.out.size _))
        clear EE
        have EE := EE2
        clear EE2
        refine hK.out _ _ (SW.out _ EE.out) (fun hS => ?_)
        clear hK Kq
        try simp only [Act.put, List.getElem_toArray, List.getElem_cons_zero, List.getElem_cons_succ, List.setIfInBounds_toArray, List.set_cons_succ, List.set_cons_zero]
        refine wpAnyH_ready (rs := [0, 2]) (by kernel_rfl) (by simp) ?_
        refine AllReadyH.cons rfl (fun Kq hK => ?_) (AllReadyH.cons rfl (fun Kq hK => ?_) (AllReadyH.nil))
        · go_simp
          have q0 := aa_nil (base := wd.heap.size) (k := 32) (Blk.new ((wd).alloc (.cells (cellsOf encK [k]).toArray 26)) 26 #[]) EE.out.size
          simp only [World.size_alloc] at q0
          have O0 := Lib.hid q0
          clear q0
          have f6 := Lib.hid (f5.out.alloc (.cells #[] 26))
          clear f5
          have f5 := f6
          clear f6
          have EE2 := Lib.hid (EE.out.trans (show Below wd.heap.size ((wd).alloc (.cells (cellsOf encK [k]).toArray 26)) (((wd).alloc (.cells (cellsOf encK [k]).toArray 26)).alloc (.cells #[] 26)) from (Below.refl wd.heap.size ((wd).alloc (.cells (cellsOf encK [k]).toArray 26))).alloc EE.out.size _))
          clear EE
          have EE := EE2
          clear EE2
          refine hK.out _ _ (SW.out _ EE.out) (fun hS => ?_)
          clear hK Kq
          try simp only [Act.put, List.getElem_toArray, List.getElem_cons_zero, List.getElem_cons_succ, List.setIfInBounds_toArray, List.set_cons_succ, List.set_cons_zero]
          refine wpAnyH_ready (rs := [2]) (by kernel_rfl) (by simp) ?_
          refine AllReadyH.cons rfl (fun Kq hK => ?_) AllReadyH.nil
          refine step_load_one (by rfl) 27 (.tmp 20) rfl ⟨w.heap.size, 36, none⟩ rfl (.slice A (chN a k j).length c) Try.isAgg27 (chD_c5 (KT.out _ EE.out)) ?_
          refine hK.out _ _ (SW.out _ EE.out) (fun hS => ?_)
          clear hK Kq
          try simp only [Act.put, List.getElem_toArray, List.getElem_cons_zero, List.getElem_cons_succ, List.setIfInBounds_toArray, List.set_cons_succ, List.set_cons_zero]
          refine wpAnyH_ready (rs := [3]) (by kernel_rfl) (by simp) ?_
          refine AllReadyH.cons rfl (fun Kq hK => ?_) AllReadyH.nil
          refine tyKy.step_append rfl zcKy 32 zbKy (by omega) (.tmp 19) (.tmp 21) rfl wd.heap.size _ ([] : List K32) rfl O0.out _ A c (chN a k j) rfl (RS.out _ EE.out) HL0.out EE.out.size ?_
          intro v3 y3 p3 g3
          have f6 := Lib.hid (blk_grown f5.out g3 (fun e => by have := Option.some.inj e; simp at this <;> omega))
          clear f5
          have f5 := f6
          clear f6
          have e3 := aa_grown O0.out g3 EE.out.size
          have O3 := Lib.hid (aa_congr p3 (List.nil_append _))
          clear O0 p3 g3
          have EE2 := Lib.hid (EE.out.trans (show Below wd.heap.size (((wd).alloc (.cells (cellsOf encK [k]).toArray 26)).alloc (.cells #[] 26)) (y3) from e3))
          clear EE
          have EE := EE2
          clear EE2
          refine hK.out _ _ (SW.out _ EE.out) (fun hS => ?_)
          clear hK Kq
          try simp only [Act.put, List.getElem_toArray, List.getElem_cons_zero, List.getElem_cons_succ, List.setIfInBounds_toArray, List.set_cons_succ, List.set_cons_zero]
          clear e3
          refine wpAnyH_ready (rs := [6]) (by kernel_rfl) (by simp) ?_
          refine AllReadyH.cons rfl (fun Kq hK => ?_) AllReadyH.nil
          refine tyKy.step_append rfl zcKy 32 zbKy (by omega) (.tmp 22) (.tmp 24) rfl wd.heap.size _ (chN a k j) rfl O3.out _ _ 1 [k] rfl (rowIn_blk f5.out (by simp) (by decide)) HL1.out EE.out.size ?_
          intro v6 y6 p6 g6
          have e6 := aa_grown O3.out g6 EE.out.size
          obtain ⟨A6, c6, rfl⟩ := own_shape p6
          have O6 := Lib.hid p6
          clear O3 p6 g6 f5
          have EE2 := Lib.hid (EE.out.trans (show Below wd.heap.size (y3) (y6) from e6))
          clear EE
          have EE := EE2
          clear EE2
          refine hK.out _ _ (SW.out _ EE.out) (fun hS => ?_)
          clear hK Kq
          try simp only [Act.put, List.getElem_toArray, List.getElem_cons_zero, List.getElem_cons_succ, List.setIfInBounds_toArray, List.set_cons_succ, List.set_cons_zero]
          clear e6
          refine wpAnyH_take (i := 7) (v := .pointer (some ⟨w.heap.size, 36, none⟩)) rfl (by kernel_rfl) (by kernel_rfl) (by kernel_rfl) (fun _ _ _ h => h) (Or.inl ⟨by rfl, fun W _ => by go_simp; try with_reducible rfl⟩) hS ?_
          simp only [Act.put, List.getElem_toArray, List.getElem_cons_zero, List.getElem_cons_succ, List.setIfInBounds_toArray, List.set_cons_succ, List.set_cons_zero]
          refine wpAnyH_ready (rs := [8]) (by kernel_rfl) (by simp) ?_
          refine AllReadyH.cons rfl (fun Kq hK => ?_) AllReadyH.nil
          refine step_store_cell rfl 27 (.tmp 26) (.tmp 25) rfl rfl w.heap.size 36 (.slice A6 ((chN a k j) ++ [k]).length c6) rfl rfl rfl 29 _ (KU.out _ EE.out) (by rw [List.size_toArray, TxA.len]; decide) (by kernel_rfl) ?_
          intro y7 o7 b7
          rw [chD_set] at b7
          have H7 := Lib.hid (show Holds w [(w.heap.size + 1, 26, (encK k).toArray), (w.heap.size, 29, (chD a k (j + 1) A6 c6).cells.toArray)] y7 from
            ⟨HHB.out.trans (EE.out.mono (by have := HHB.out.size; omega) |>.trans (o7.below (by simp))), fun x hx => by
              simp only [List.mem_cons, List.not_mem_nil, or_false] at hx
              rcases hx with rfl | rfl
              · exact o7.blk (KK2.out _ EE.out) (by simp)
              · exact b7⟩)
          have R7 := Lib.hid (show RowIn encK 32 y7 y7.heap.size A6 c6 (chN a k (j + 1)) from by
            obtain ⟨A9, c9, hv9, r9⟩ := RowIn.of_own encK_len O6.out
            injection hv9 with h1 _ h3
            subst h1 h3
            rw [chN_succ] at r9
            exact ⟨r9.le, r9.max, fun hne => by
              obtain ⟨g9, o9, e9, hg9, hc9⟩ := r9.cells hne
              refine ⟨g9, o9, e9, by rw [o7.size]; exact hg9, fun i v hi => ?_⟩
              have hgb := own_base O6.out g9 (by subst e9; rfl)
              rw [o7.cell (by have := HWD.out; simp; omega)]
              exact hc9 i v hi⟩)
          refine hK.out _ _ (by have h1 := hS; exact fun i v hi => (o7.cell (by simp)).trans (h1 i v hi)) (fun hS => ?_)
          clear hK Kq o7 b7 EE O6 hS
          refine wpAnyH_done (by kernel_rfl) ?_ _
          go_wp2_with fail
          go_roundw
          case rel => exact ⟨j + 1, A6, c6, by go_num, by omega, H7, R7⟩
          case measure => simp [intOf]; omega
        · refine step_load_one (by rfl) 27 (.tmp 20) rfl ⟨w.heap.size, 36, none⟩ rfl (.slice A (chN a k j).length c) Try.isAgg27 (chD_c5 (KT.out _ EE.out)) ?_
          refine hK.out _ _ (SW.out _ EE.out) (fun hS => ?_)
          clear hK Kq
          try simp only [Act.put, List.getElem_toArray, List.getElem_cons_zero, List.getElem_cons_succ, List.setIfInBounds_toArray, List.set_cons_succ, List.set_cons_zero]
          refine wpAnyH_ready (rs := [0]) (by kernel_rfl) (by simp) ?_
          refine AllReadyH.cons rfl (fun Kq hK => ?_) AllReadyH.nil
          go_simp
          have q0 := aa_nil (base := wd.heap.size) (k := 32) (Blk.new ((wd).alloc (.cells (cellsOf encK [k]).toArray 26)) 26 #[]) EE.out.size
          simp only [World.size_alloc] at q0
          have O0 := Lib.hid q0
          clear q0
          have f6 := Lib.hid (f5.out.alloc (.cells #[] 26))
          clear f5
          have f5 := f6
          clear f6
          have EE2 := Lib.hid (EE.out.trans (show Below wd.heap.size ((wd).alloc (.cells (cellsOf encK [k]).toArray 26)) (((wd).alloc (.cells (cellsOf encK [k]).toArray 26)).alloc (.cells #[] 26)) from (Below.refl wd.heap.size ((wd).alloc (.cells (cellsOf encK [k]).toArray 26))).alloc EE.out.size _))
          clear EE
          have EE := EE2
          clear EE2
          refine hK.out _ _ (SW.out _ EE.out) (fun hS => ?_)
          clear hK Kq
          try simp only [Act.put, List.getElem_toArray, List.getElem_cons_zero, List.getElem_cons_succ, List.setIfInBounds_toArray, List.set_cons_succ, List.set_cons_zero]
          refine wpAnyH_ready (rs := [3]) (by kernel_rfl) (by simp) ?_
          refine AllReadyH.cons rfl (fun Kq hK => ?_) AllReadyH.nil
          refine tyKy.step_append rfl zcKy 32 zbKy (by omega) (.tmp 19) (.tmp 21) rfl wd.heap.size _ ([] : List K32) rfl O0.out _ A c (chN a k j) rfl (RS.out _ EE.out) HL0.out EE.out.size ?_
          intro v3 y3 p3 g3
          have f6 := Lib.hid (blk_grown f5.out g3 (fun e => by have := Option.some.inj e; simp at this <;> omega))
          clear f5
          have f5 := f6
          clear f6
          have e3 := aa_grown O0.out g3 EE.out.size
          have O3 := Lib.hid (aa_congr p3 (List.nil_append _))
          clear O0 p3 g3
          have EE2 := Lib.hid (EE.out.trans (show Below wd.heap.size (((wd).alloc (.cells (cellsOf encK [k]).toArray 26)).alloc (.cells #[] 26)) (y3) from e3))
          clear EE
          have EE := EE2
          clear EE2
          refine hK.out _ _ (SW.out _ EE.out) (fun hS => ?_)
          clear hK Kq
          try simp only [Act.put, List.getElem_toArray, List.getElem_cons_zero, List.getElem_cons_succ, List.setIfInBounds_toArray, List.set_cons_succ, List.set_cons_zero]
          clear e3
          refine wpAnyH_ready (rs := [6]) (by kernel_rfl) (by simp) ?_
          refine AllReadyH.cons rfl (fun Kq hK => ?_) AllReadyH.nil
          refine tyKy.step_append rfl zcKy 32 zbKy (by omega) (.tmp 22) (.tmp 24) rfl wd.heap.size _ (chN a k j) rfl O3.out _ _ 1 [k] rfl (rowIn_blk f5.out (by simp) (by decide)) HL1.out EE.out.size ?_
          intro v6 y6 p6 g6
          have e6 := aa_grown O3.out g6 EE.out.size
          obtain ⟨A6, c6, rfl⟩ := own_shape p6
          have O6 := Lib.hid p6
          clear O3 p6 g6 f5
          have EE2 := Lib.hid (EE.out.trans (show Below wd.heap.size (y3) (y6) from e6))
          clear EE
          have EE := EE2
          clear EE2
          refine hK.out _ _ (SW.out _ EE.out) (fun hS => ?_)
          clear hK Kq
          try simp only [Act.put, List.getElem_toArray, List.getElem_cons_zero, List.getElem_cons_succ, List.setIfInBounds_toArray, List.set_cons_succ, List.set_cons_zero]
          clear e6
          refine wpAnyH_take (i := 7) (v := .pointer (some ⟨w.heap.size, 36, none⟩)) rfl (by kernel_rfl) (by kernel_rfl) (by kernel_rfl) (fun _ _ _ h => h) (Or.inl ⟨by rfl, fun W _ => by go_simp; try with_reducible rfl⟩) hS ?_
          simp only [Act.put, List.getElem_toArray, List.getElem_cons_zero, List.getElem_cons_succ, List.setIfInBounds_toArray, List.set_cons_succ, List.set_cons_zero]
          refine wpAnyH_ready (rs := [8]) (by kernel_rfl) (by simp) ?_
          refine AllReadyH.cons rfl (fun Kq hK => ?_) AllReadyH.nil
          refine step_store_cell rfl 27 (.tmp 26) (.tmp 25) rfl rfl w.heap.size 36 (.slice A6 ((chN a k j) ++ [k]).length c6) rfl rfl rfl 29 _ (KU.out _ EE.out) (by rw [List.size_toArray, TxA.len]; decide) (by kernel_rfl) ?_
          intro y7 o7 b7
          rw [chD_set] at b7
          have H7 := Lib.hid (show Holds w [(w.heap.size + 1, 26, (encK k).toArray), (w.heap.size, 29, (chD a k (j + 1) A6 c6).cells.toArray)] y7 from
            ⟨HHB.out.trans (EE.out.mono (by have := HHB.out.size; omega) |>.trans (o7.below (by simp))), fun x hx => by
              simp only [List.mem_cons, List.not_mem_nil, or_false] at hx
              rcases hx with rfl | rfl
              · exact o7.blk (KK2.out _ EE.out) (by simp)
              · exact b7⟩)
          have R7 := Lib.hid (show RowIn encK 32 y7 y7.heap.size A6 c6 (chN a k (j + 1)) from by
            obtain ⟨A9, c9, hv9, r9⟩ := RowIn.of_own encK_len O6.out
            injection hv9 with h1 _ h3
            subst h1 h3
            rw [chN_succ] at r9
            exact ⟨r9.le, r9.max, fun hne => by
              obtain ⟨g9, o9, e9, hg9, hc9⟩ := r9.cells hne
              refine ⟨g9, o9, e9, by rw [o7.size]; exact hg9, fun i v hi => ?_⟩
              have hgb := own_base O6.out g9 (by subst e9; rfl)
              rw [o7.cell (by have := HWD.out; simp; omega)]
              exact hc9 i v hi⟩)
          refine hK.out _ _ (by have h1 := hS; exact fun i v hi => (o7.cell (by simp)).trans (h1 i v hi)) (fun hS => ?_)
          clear hK Kq o7 b7 EE O6 hS
          refine wpAnyH_done (by kernel_rfl) ?_ _
          go_wp2_with fail
          go_roundw
          case rel => exact ⟨j + 1, A6, c6, by go_num, by omega, H7, R7⟩
          case measure => simp [intOf]; omega
    · have hd : decide ((j : Int) < 41) = false := by simp; omega
      have hj2 : j = 41 := by omega
      subst hj2
      have HCD := Lib.hid (show ∀ W, (chD a k 41 A c).In W W.heap.size → Calls Try.prog 13 #[.agg (chD a k 41 A c).cells.toArray, .bool base] W fun e w' => e = .returned (.int .i64 51) ∧ Below W.heap.size W w' from fun W h => by
        have := HCK (chD a k 41 A c) base W h ⟨by have := NA.out; show a.T.ins.length ≤ 120; omega, by have := NA.out; show a.T.outs.length ≤ 120; omega, by have := NA.out; show a.T.nulls.length ≤ 120; omega, by have := NA.out; show (chN a k 41).length ≤ 120; rw [chN_len]; omega⟩
        rw [ch_many (show 40 < (chN a k 41).length by rw [chN_len]; omega)] at this
        exact this)
      have HIN := Lib.hid (show (chD a k 41 A c).In wr wr.heap.size from by
        have h := IA.out.on HH.out.below (Nat.le_refl _)
        exact ⟨h.ins, h.outs, h.nulls, HR.out⟩)
      go_wp2_with ((with_reducible refine at_load 3 ?_); refine tyTx.wpList_load rfl (.tmp 3) rfl w.heap.size 0 rfl (chD a k 41 A c) (RowC.of_blk (HH.out.at (x := (w.heap.size, 29, (chD a k 41 A c).cells.toArray)) (by simp))) ?_)
      refine (HCD.out _ HIN.out).mono ?_
      rintro e w5 ⟨rfl, b5⟩
      have B5 := Lib.hid (HH.out.below.trans (b5.mono HH.out.below.size))
      clear b5
      go_wp2_with fail
      go_ret
      exact ⟨rfl, B5.out⟩
theorem chMany_walk (HCK : ChkTOk) (HPO : PointsOk) (a : TxA) (k : K32) (base : Bool) (w : World) (ha : a.In w w.heap.size) :
    Calls Try.prog 8 #[.agg a.cells.toArray, .agg (encK k).toArray, .bool base] w fun e w' => e = .returned (.bool true) ∧ Below w.heap.size w w' := by
  cases hv : heavyF a.T with
  | true => exact chMany_h HCK HPO a k base w ha hv
  | false => exact chMany_m HCK HPO a k base w ha hv
end Go.Proofs.Yticphjnabecanaa
