/- The project's Put and New of a ring. Written by genAnpB.py. -/
import Derived.Test.YtiifamfophbbcaaAnpA
namespace Go.Proofs.Ytiifamfophbbcaa
open Go.RowKit
theorem rRp : Try.prog.underlying 27 = some (.struct #[(Try.prog.fieldsOf 27)[0]!]) := by kernel_rfl
structure PutS (w : World) (A : Option Addr) (c : Nat) (l : List K32) (k : K32) (W : World) : Prop where
  below : Below w.heap.size w W
  rin : Blk W w.heap.size 27 #[.slice A l.length c]
  kb : Blk W (w.heap.size + 1) 24 (encK k).toArray
  out : Blk W (w.heap.size + 1 + 1) 27 #[.slice none 0 0]
  row : RowIn encK 32 W w.heap.size A c l
section
variable {w W W' : World} {A : Option Addr} {c : Nat} {l : List K32} {k : K32}
theorem PutS.on (h : PutS w A c l k W) (hb : Below W.heap.size W W') : PutS w A c l k W' :=
  ⟨h.below.trans (hb.mono h.below.size), below_blk hb h.rin h.rin.lt, below_blk hb h.kb h.kb.lt, below_blk hb h.out h.out.lt, h.row.below (hb.mono h.below.size)⟩
theorem PutS.drew (h : PutS w A c l k W) : PutS w A c l k W.drew := ⟨h.below.drew, h.rin, h.kb, h.out, h.row.drewN 1⟩
end
set_option maxRecDepth 20000 in
set_option maxHeartbeats 2000000 in
theorem pPut_any (A : Option Addr) (c : Nat) (l : List K32) (k : K32) (w : World) (hn : l.length ≤ 200) (hl : RowIn encK 32 w w.heap.size A c l) :
    Calls Try.prog 10 #[.agg #[.slice A l.length c], .agg (encK k).toArray] w fun e w' => ∃ A' c', e = .returned (.agg #[.slice A' (lastN 8 (l ++ [k])).length c']) ∧ RowIn encK 32 w' w'.heap.size A' c' (lastN 8 (l ++ [k])) ∧ Fresh (w.heap.size + 1 + 1 + 1) A' ∧ Below w.heap.size w w' := by
  have HN := Lib.hid hn
  have HN7 := Lib.hid (show (lastN 7 l).length ≤ 7 by rw [lastN_len]; omega)
  have P0 := Lib.hid (show PutS w A c l k (((w.alloc (.cells #[.slice A l.length c] 27)).alloc (.cells (encK k).toArray 24)).alloc (.cells #[.slice none 0 0] 27)) from ⟨(((Below.refl w.heap.size w).alloc (Nat.le_refl _) _).alloc (by simp) _).alloc (by simp; omega) _, ((Blk.new w 27 #[.slice A l.length c]).alloc _).alloc _, (blk_new (g := w.heap.size + 1) 24 (encK k).toArray (by simp)).alloc _, blk_new (g := w.heap.size + 1 + 1) 27 #[.slice none 0 0] (by simp), hl.below ((((Below.refl w.heap.size w).alloc (Nat.le_refl _) _).alloc (by simp) _).alloc (by simp; omega) _)⟩)
  clear hl hn
  go_enter Try.func10, Try.ntmps10
  go_wp2_with fail
  have P1 := Lib.hid P0.out.drew
  clear P0
  refine wp_region_held_drew (S := fun W => W.cell? ⟨w.heap.size, 0, none⟩ = some (.slice A l.length c) ∧ RowC W (w.heap.size + 1) 0 (encK k)) (by kernel_rfl) ⟨P1.out.rin.cell 0, RowC.of_blk P1.out.kb⟩ ?_
  intro hS
  refine wpAnyH_take (i := 0) (v := .pointer (some ⟨w.heap.size, 0, none⟩)) rfl (by kernel_rfl) (by kernel_rfl) (by kernel_rfl) (fun _ _ _ h => h) (Or.inl ⟨by rfl, fun W _ => by go_simp; try with_reducible rfl⟩) hS ?_
  simp only [Act.put, List.getElem_toArray, List.getElem_cons_zero, List.setIfInBounds_toArray, List.set_cons_succ, List.set_cons_zero]
  refine wpAnyH_take (i := 1) (v := .slice A l.length c) rfl (by kernel_rfl) (by kernel_rfl) (by kernel_rfl) (fun _ _ _ h => h) (yieldsIf_load_one (by rfl) 22 (.tmp 5) rfl ⟨w.heap.size, 0, none⟩ rfl _ Try.isAgg22 (fun _ h => h.1)) hS ?_
  simp only [Act.put, List.getElem_toArray, List.getElem_cons_zero, List.getElem_cons_succ, List.setIfInBounds_toArray, List.set_cons_succ, List.set_cons_zero]
  refine wpAnyH_take (i := 3) (v := .agg (encK k).toArray) rfl (by kernel_rfl) (by kernel_rfl) (by kernel_rfl) (fun _ _ _ h => h) (tyKc.yieldsIf_load (by rfl) (.tmp 3) rfl (w.heap.size + 1) 0 rfl k (fun _ h => h.2)) hS ?_
  simp only [Act.put, List.getElem_toArray, List.getElem_cons_zero, List.getElem_cons_succ, List.setIfInBounds_toArray, List.set_cons_succ, List.set_cons_zero]
  refine wpAnyH_ready (rs := [2, 4]) (by kernel_rfl) (by simp) ?_
  refine AllReadyH.cons rfl (fun Kq hK => ?_) (AllReadyH.cons rfl (fun Kq hK => ?_) AllReadyH.nil)
  · go_simp
    with_reducible refine (tail7_any A c l _ (by have := HN.out; omega) P1.out.row.le).mono ?_
    rintro e x1 ⟨rfl, rfl⟩
    refine hK.out _ _ hS (fun hS => ?_)
    clear hK Kq
    try simp only [Act.put, List.getElem_toArray, List.getElem_cons_zero, List.getElem_cons_succ, List.setIfInBounds_toArray, List.set_cons_succ, List.set_cons_zero]
    refine wpAnyH_ready (rs := [4]) (by kernel_rfl) (by simp) ?_
    refine AllReadyH.cons rfl (fun Kq hK => ?_) AllReadyH.nil
    refine tyKy.step_build rfl azsK 1 _ rfl [k] rfl (by omega) (by omega) (by kernel_rfl) ?_
    have P2 := Lib.hid (P1.out.on ((Below.refl _ _).alloc (Nat.le_refl _) (.cells (cellsOf encK [k]).toArray 24)))
    have KB := Lib.hid (Blk.new (((w.alloc (.cells #[.slice A l.length c] 27)).alloc (.cells (encK k).toArray 24)).alloc (.cells #[.slice none 0 0] 27)).drew 24 (cellsOf encK [k]).toArray)
    refine hK.out _ _ ⟨P2.out.rin.cell 0, RowC.of_blk P2.out.kb⟩ (fun hS => ?_)
    clear hK Kq P1
    try simp only [Act.put, List.getElem_toArray, List.getElem_cons_zero, List.getElem_cons_succ, List.setIfInBounds_toArray, List.set_cons_succ, List.set_cons_zero]
    refine wpAnyH_ready (rs := [5]) (by kernel_rfl) (by simp) ?_
    refine AllReadyH.cons rfl (fun Kq hK => ?_) AllReadyH.nil
    refine tyKy.step_appendFull rfl azcK 32 azbK (by omega) (.tmp 7) (.tmp 9) rfl _ (tailA 7 A l) (lastN 7 l).length (lastN 7 l) rfl rfl (tail_row P2.out.row) _ 1 k rfl (by first | exact KB.out | simpa using KB.out) (by have := HN7.out; omega) ?_
    intro v5 w5 p5 g5
    rw [← lastN_put1] at p5
    have P5 := Lib.hid (P2.out.on ((Below.refl _ _).grown g5 (Nat.le_refl _) (fun _ h => by cases h)))
    obtain ⟨A5, c5, rfl, r5⟩ := RowIn.of_own encK_len p5
    have F5 := Lib.hid ((fresh_of p5).mono P2.out.out.lt)
    have I5 := Lib.hid (show RowIn encK 32 w5 w5.heap.size A5 c5 (lastN 8 (l ++ [k])) from r5)
    refine hK.out _ _ ⟨P5.out.rin.cell 0, RowC.of_blk P5.out.kb⟩ (fun hS => ?_)
    clear hK Kq p5 g5 r5
    try simp only [Act.put, List.getElem_toArray, List.getElem_cons_zero, List.getElem_cons_succ, List.setIfInBounds_toArray, List.set_cons_succ, List.set_cons_zero]
    obtain ⟨n5, hn5⟩ : ∃ n5, (lastN 8 (l ++ [k])).length = n5 := ⟨_, rfl⟩
    have HN5 := Lib.hid hn5
    clear hn5
    refine wpAnyH_take (i := 6) (v := .agg #[.slice A5 (lastN 8 (l ++ [k])).length c5]) rfl (by kernel_rfl) (by kernel_rfl) (by kernel_rfl) (fun _ _ _ h => h) (yieldsIf_build (by rfl) 27 #[(0, .tmp 10)] rfl #[.slice A5 (lastN 8 (l ++ [k])).length c5] (by kernel_rfl)) hS ?_
    simp only [Act.put, List.getElem_toArray, List.getElem_cons_zero, List.getElem_cons_succ, List.setIfInBounds_toArray, List.set_cons_succ, List.set_cons_zero]
    refine wpAnyH_ready (rs := [7]) (by kernel_rfl) (by simp) ?_
    refine AllReadyH.cons rfl (fun Kq hK => ?_) AllReadyH.nil
    refine tyRg.step_store rfl (.tmp 4) (.tmp 11) rfl rfl (w.heap.size + 1 + 1) (A5, (lastN 8 (l ++ [k])).length, c5) rfl rfl 27 _ P5.out.out rfl ?_
    intro w7 o7 b7
    refine hK.out _ _ ⟨(o7.blk P5.out.rin (by simp only [List.mem_singleton]; omega)).cell 0, RowC.of_blk (o7.blk P5.out.kb (by simp only [List.mem_singleton]; omega))⟩ (fun _ => ?_)
    clear hK Kq hS
    refine wpAnyH_done (by kernel_rfl) ?_ _
    go_wp2_with fail
    refine bodyPost_ret (results_ring rfl _ _ (w.heap.size + 1 + 1) 27 _ _ rfl b7 rRp rfl (by kernel_rfl)) rfl ⟨A5, c5, rfl, ?_, F5.out, P5.out.below.trans (o7.below (by simp; omega))⟩
    rw [o7.size]
    exact arow_only I5.out o7 (fun g o hA => by have h := F5.out _ hA; have := P5.out.out.lt; simp only [List.mem_singleton]; intro e; simp only at h; omega)
  · refine tyKy.step_build rfl azsK 1 _ rfl [k] rfl (by omega) (by omega) (by kernel_rfl) ?_
    have P2 := Lib.hid (P1.out.on ((Below.refl _ _).alloc (Nat.le_refl _) (.cells (cellsOf encK [k]).toArray 24)))
    have KB := Lib.hid (show Blk ((((w.alloc (.cells #[.slice A l.length c] 27)).alloc (.cells (encK k).toArray 24)).alloc (.cells #[.slice none 0 0] 27)).alloc (.cells (cellsOf encK [k]).toArray 24)).drew (w.heap.size + 1 + 1 + 1) 24 (cellsOf encK [k]).toArray from blk_new (g := w.heap.size + 1 + 1 + 1) (w := (((w.alloc (.cells #[.slice A l.length c] 27)).alloc (.cells (encK k).toArray 24)).alloc (.cells #[.slice none 0 0] 27))) 24 (cellsOf encK [k]).toArray (by simp))
    refine hK.out _ _ ⟨P2.out.rin.cell 0, RowC.of_blk P2.out.kb⟩ (fun hS => ?_)
    clear hK Kq P1
    try simp only [Act.put, List.getElem_toArray, List.getElem_cons_zero, List.getElem_cons_succ, List.setIfInBounds_toArray, List.set_cons_succ, List.set_cons_zero]
    refine wpAnyH_ready (rs := [2]) (by kernel_rfl) (by simp) ?_
    refine AllReadyH.cons rfl (fun Kq hK => ?_) AllReadyH.nil
    go_simp
    with_reducible refine (tail7_any A c l _ (by have := HN.out; omega) P2.out.row.le).mono ?_
    rintro e x1 ⟨rfl, rfl⟩
    refine hK.out _ _ hS (fun hS => ?_)
    clear hK Kq
    try simp only [Act.put, List.getElem_toArray, List.getElem_cons_zero, List.getElem_cons_succ, List.setIfInBounds_toArray, List.set_cons_succ, List.set_cons_zero]
    refine wpAnyH_ready (rs := [5]) (by kernel_rfl) (by simp) ?_
    refine AllReadyH.cons rfl (fun Kq hK => ?_) AllReadyH.nil
    refine tyKy.step_appendFull rfl azcK 32 azbK (by omega) (.tmp 7) (.tmp 9) rfl _ (tailA 7 A l) (lastN 7 l).length (lastN 7 l) rfl rfl (tail_row P2.out.row) _ 1 k rfl (by first | exact KB.out | simpa using KB.out) (by have := HN7.out; omega) ?_
    intro v5 w5 p5 g5
    rw [← lastN_put1] at p5
    have P5 := Lib.hid (P2.out.on ((Below.refl _ _).grown g5 (Nat.le_refl _) (fun _ h => by cases h)))
    obtain ⟨A5, c5, rfl, r5⟩ := RowIn.of_own encK_len p5
    have F5 := Lib.hid ((fresh_of p5).mono P2.out.out.lt)
    have I5 := Lib.hid (show RowIn encK 32 w5 w5.heap.size A5 c5 (lastN 8 (l ++ [k])) from r5)
    refine hK.out _ _ ⟨P5.out.rin.cell 0, RowC.of_blk P5.out.kb⟩ (fun hS => ?_)
    clear hK Kq p5 g5 r5
    try simp only [Act.put, List.getElem_toArray, List.getElem_cons_zero, List.getElem_cons_succ, List.setIfInBounds_toArray, List.set_cons_succ, List.set_cons_zero]
    obtain ⟨n5, hn5⟩ : ∃ n5, (lastN 8 (l ++ [k])).length = n5 := ⟨_, rfl⟩
    have HN5 := Lib.hid hn5
    clear hn5
    refine wpAnyH_take (i := 6) (v := .agg #[.slice A5 (lastN 8 (l ++ [k])).length c5]) rfl (by kernel_rfl) (by kernel_rfl) (by kernel_rfl) (fun _ _ _ h => h) (yieldsIf_build (by rfl) 27 #[(0, .tmp 10)] rfl #[.slice A5 (lastN 8 (l ++ [k])).length c5] (by kernel_rfl)) hS ?_
    simp only [Act.put, List.getElem_toArray, List.getElem_cons_zero, List.getElem_cons_succ, List.setIfInBounds_toArray, List.set_cons_succ, List.set_cons_zero]
    refine wpAnyH_ready (rs := [7]) (by kernel_rfl) (by simp) ?_
    refine AllReadyH.cons rfl (fun Kq hK => ?_) AllReadyH.nil
    refine tyRg.step_store rfl (.tmp 4) (.tmp 11) rfl rfl (w.heap.size + 1 + 1) (A5, (lastN 8 (l ++ [k])).length, c5) rfl rfl 27 _ P5.out.out rfl ?_
    intro w7 o7 b7
    refine hK.out _ _ ⟨(o7.blk P5.out.rin (by simp only [List.mem_singleton]; omega)).cell 0, RowC.of_blk (o7.blk P5.out.kb (by simp only [List.mem_singleton]; omega))⟩ (fun _ => ?_)
    clear hK Kq hS
    refine wpAnyH_done (by kernel_rfl) ?_ _
    go_wp2_with fail
    refine bodyPost_ret (results_ring rfl _ _ (w.heap.size + 1 + 1) 27 _ _ rfl b7 rRp rfl (by kernel_rfl)) rfl ⟨A5, c5, rfl, ?_, F5.out, P5.out.below.trans (o7.below (by simp; omega))⟩
    rw [o7.size]
    exact arow_only I5.out o7 (fun g o hA => by have h := F5.out _ hA; have := P5.out.out.lt; simp only [List.mem_singleton]; intro e; simp only at h; omega)
theorem pPut_r : PutOk := by
  intro A c l k w hn hl
  refine (pPut_any A c l k w hn hl).mono ?_
  rintro e w' ⟨A', c', rfl, r, f, b⟩
  exact ⟨A', c', rfl, r, f.mono (by omega), b⟩
set_option maxRecDepth 20000 in
set_option maxHeartbeats 1000000 in
theorem pNew_r : NewOk := by
  intro k w
  have HP := Lib.hid (show ∀ W, Calls Try.prog 10 #[.agg #[.slice none 0 0], .agg (encK k).toArray] W fun e w' => ∃ A' c', e = .returned (.agg #[.slice A' 1 c']) ∧ RowIn encK 32 w' w'.heap.size A' c' [k] ∧ Fresh (W.heap.size + 1 + 1 + 1) A' ∧ Below W.heap.size W w' from fun W => pPut_any none 0 [] k W (by decide) (RowIn.nil (Nat.zero_le _)))
  have B0 := Lib.hid (show Below w.heap.size w ((w.alloc (.cells (encK k).toArray 24)).alloc (.cells #[.slice none 0 0] 27)) from ((Below.refl w.heap.size w).alloc (Nat.le_refl _) _).alloc (by simp) _)
  have K0 := Lib.hid (show Blk ((w.alloc (.cells (encK k).toArray 24)).alloc (.cells #[.slice none 0 0] 27)) w.heap.size 24 (encK k).toArray from (Blk.new w 24 (encK k).toArray).alloc _)
  have R0 := Lib.hid (show Blk ((w.alloc (.cells (encK k).toArray 24)).alloc (.cells #[.slice none 0 0] 27)) (w.heap.size + 1) 27 #[.slice none 0 0] from blk_new (g := w.heap.size + 1) 27 #[.slice none 0 0] (by simp))
  go_enter Try.func19, Try.ntmps19
  go_wp2_with ((with_reducible refine at_load 1 ?_); refine tyKc.wpList_load rfl (.tmp 1) rfl w.heap.size 0 rfl k (RowC.of_blk K0.out) ?_)
  with_reducible refine (HP.out _).mono ?_
  rintro e w2 ⟨A, c, rfl, r2, f2, b2⟩
  have I2 := Lib.hid (show RowIn encK 32 w2 w2.heap.size A c [k] from r2)
  have F2 := Lib.hid f2
  have R2 := Lib.hid (below_blk b2 R0.out R0.out.lt)
  have B2 := Lib.hid (B0.out.trans (b2.mono (by simp; omega)))
  clear r2 f2 b2 B0 K0 R0
  go_wp2_with ((with_reducible refine at_store 2 5 ?_); refine tyRg.wpList_store rfl (.tmp 2) (.tmp 5) rfl rfl (w.heap.size + 1) (A, 1, c) rfl rfl 27 _ R2.out rfl ?_; intro w7 o7 b7)
  refine bodyPost_ret (results_ring rfl _ _ (w.heap.size + 1) 27 _ _ rfl b7 rRp rfl (by kernel_rfl)) rfl ⟨A, c, rfl, ?_, B2.out.trans (o7.below (by simp))⟩
  rw [o7.size]
  exact arow_only I2.out o7 (fun g o hA => by have h := F2.out _ hA; simp only [List.mem_singleton]; intro e; simp at h; omega)
end Go.Proofs.Ytiifamfophbbcaa
