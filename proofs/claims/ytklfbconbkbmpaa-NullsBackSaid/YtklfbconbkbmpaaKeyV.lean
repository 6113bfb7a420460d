/- keys.Remove. -/
import Derived.Test.YtklfbconbkbmpaaKeyI
namespace Go.Proofs.Ytklfbconbkbmpaa
open Go.RowKit Go.Sort
set_option maxRecDepth 20000 in
set_option maxHeartbeats 1000000 in
theorem remove_not (A : Option Addr) (c : Nat) (l : List K32) (k : K32) (B : Nat) (hl : l.length ≤ 100000) (w : World) (hB : B ≤ w.heap.size) (h : RowIn encK 32 w B A c l) (hk : k ∉ l) :
    Calls Try.prog 24 #[.slice A l.length c, .agg (bytesA k.1)] w fun e w' => ∃ v, e = .returned (.tuple #[v, .bool false]) ∧ w'.ownsRow w.heap.size 29 32 v l.length (cellsOf encK l) ∧ Below w.heap.size w w' := by
  have B1 : Below w.heap.size w (w.alloc (.cells (bytesA k.1) 29)) := (Below.refl _ _).alloc (Nat.le_refl _) _
  have K3 := Lib.hid (Blk.new w 29 (bytesA k.1))
  have HP := Lib.hid (place_any A c l k B (by omega) (w.alloc (.cells (bytesA k.1) 29)) (by simp; omega) (h.below (B1.mono hB)))
  have HC := Lib.hid (fun W (hW : Below w.heap.size w W) => clone_any A c l B W (by omega) (Nat.le_trans hB hW.size) (h.below (hW.mono hB)))
  clear h
  rw [decide_eq_false hk] at HP
  obtain ⟨j, hj⟩ : ∃ j, placeI k l = j := ⟨_, rfl⟩
  rw [hj] at HP
  obtain ⟨n, hn⟩ : ∃ n, l.length = n := ⟨_, rfl⟩
  rw [hn] at HP HC ⊢
  clear hn hj hl
  go_enter Try.func24, Try.ntmps24
  go_wp2_with (first
    | ((with_reducible refine at_loadg 3 ?_); refine wpList_load_rowg (by rfl) 29 (.tmp 3) rfl w.heap.size rfl 29 (bytesA k.1) _ K3.out Try.underlying29 rfl (szK k) ?_)
    | (go_at_call 30; refine HP.out.mono ?_; rintro e w1 ⟨rfl, b1⟩; have B2 := B1.trans (b1.mono (by simp)))
    | (go_at_call 18; refine (HC.out _ B2).mono ?_; rintro e w2 ⟨v, rfl, o2, b2⟩))
  go_ret2
  obtain ⟨A2, c2, rfl⟩ := own_shape o2
  exact ⟨_, rfl, own_mono o2 B2.size, B2.trans (b2.mono B2.size)⟩
set_option maxRecDepth 20000 in
set_option maxHeartbeats 1000000 in
theorem remove_is (A : Option Addr) (c : Nat) (l : List K32) (k : K32) (B : Nat) (hl : l.length ≤ 100000) (w : World) (hB : B ≤ w.heap.size) (h : RowIn encK 32 w B A c l) (hk : k ∈ l) :
    Calls Try.prog 24 #[.slice A l.length c, .agg (bytesA k.1)] w fun e w' => ∃ v, e = .returned (.tuple #[v, .bool true]) ∧ w'.ownsRow w.heap.size 29 32 v (l.erase k).length (cellsOf encK (l.erase k)) ∧ Below w.heap.size w w' := by
  have B1 : Below w.heap.size w (w.alloc (.cells (bytesA k.1) 29)) := (Below.refl _ _).alloc (Nat.le_refl _) _
  have K3 := Lib.hid (Blk.new w 29 (bytesA k.1))
  have HP := Lib.hid (place_any A c l k B (by omega) (w.alloc (.cells (bytesA k.1) 29)) (by simp; omega) (h.below (B1.mono hB)))
  have HH := Lib.hid (fun W (hW : Below w.heap.size w W) => h.below (w' := W) (hW.mono hB))
  have hc := h.le
  have hcm := h.max
  clear h
  rw [decide_eq_true hk] at HP
  have HI := Lib.hid (erase_place k l hk)
  have hple := placeI_lt k l hk
  obtain ⟨j, hj⟩ : ∃ j, placeI k l = j := ⟨_, rfl⟩
  rw [hj] at HP HI hple
  obtain ⟨n, hn⟩ : ∃ n, l.length = n := ⟨_, rfl⟩
  have HN := Lib.hid hn
  rw [hn] at HP hple hl hc ⊢
  clear hn hj
  obtain ⟨zv, hz1, hz2⟩ := zvK
  have hmk : ∀ W, (Instr.makeSlice 22 (.int .i64 ((n : Int) - 1)) (.int .i64 ((n : Int) - 1))).run Try.prog W = .ok (.slice (some ⟨W.heap.size, 0, none⟩) (n - 1) (n - 1)) (W.alloc (.cells (cellsOf encK (List.replicate (n - 1) default)).toArray 29)) := fun W => by
    have := tyK.made W default zv 32 hz1 hz2 (by omega) .i64 .i64 (n - 1) (by omega)
    rwa [show ((n - 1 : Nat) : Int) = (n : Int) - 1 by omega] at this
  have hs1 : ∀ W, (Instr.slice 22 (.slice A n c) none (some (.int .i64 (j : Int))) none).run Try.prog W = .ok (.slice A j c) W := fun W => tyK.slice_to W A n c j (by omega)
  have d1 : (0 : Int) ≤ (j : Int) := by omega
  have d2 : (j : Int) < (n : Int) := by omega
  clear hz1 hz2
  obtain ⟨m, hm⟩ : ∃ m, l.take j = m := ⟨_, rfl⟩
  obtain ⟨d, hd⟩ : ∃ d, l.drop (j + 1) = d := ⟨_, rfl⟩
  have HML := Lib.hid (show m.length = j by rw [← hm, List.length_take, HN.out]; omega)
  have HDL := Lib.hid (show d.length = n - (j + 1) by rw [← hd, List.length_drop, HN.out])
  have HM := Lib.hid (fun W hW => hm ▸ (HH.out W hW).take encK_len j)
  have HD := Lib.hid (fun W hW => hd ▸ (HH.out W hW).drop encK_len (j + 1) (by rw [HN.out]; omega))
  have HI2 := Lib.hid (show l.erase k = m ++ d by rw [HI.out, hm, hd])
  have HIL := Lib.hid (show (l.erase k).length = n - 1 by rw [HI2.out, List.length_append, HML.out, HDL.out]; omega)
  clear hm hd
  have E1 := Lib.hid (show (List.replicate (n - 1) (default : K32)).take 0 ++ m.take (n - 1) ++ (List.replicate (n - 1) (default : K32)).drop (0 + min m.length (n - 1)) = m ++ List.replicate (n - 1 - j) default by
    rw [List.take_zero, List.nil_append, List.take_of_length_le (by rw [HML.out]; omega), List.drop_replicate, HML.out, Nat.zero_add, Nat.min_eq_left (by omega)])
  have E3 := Lib.hid (show (m ++ List.replicate (n - 1 - j) (default : K32)).take j ++ d.take (n - 1 - j) ++ (m ++ List.replicate (n - 1 - j) (default : K32)).drop (j + min d.length (n - 1 - j)) = m ++ d by
    have e1 : (m ++ List.replicate (n - 1 - j) (default : K32)).take j = m := by
      rw [List.take_append, List.take_of_length_le (by rw [HML.out]; exact Nat.le_refl _), HML.out, Nat.sub_self]; simp
    have e2 : (m ++ List.replicate (n - 1 - j) (default : K32)).drop (j + min d.length (n - 1 - j)) = [] := by
      apply List.drop_of_length_le
      rw [List.length_append, List.length_replicate, HML.out, HDL.out]; omega
    rw [e1, e2, List.take_of_length_le (by rw [HDL.out]; omega), List.append_nil])
  have hs2 : ∀ W g, (Instr.slice 22 (.slice (some ⟨g, 0, none⟩) (n - 1) (n - 1)) (some (.int .i64 (j : Int))) none none).run Try.prog W = .ok (.slice (cutA 32 (n - 1) j (some ⟨g, 0, none⟩)) (n - 1 - j) (n - 1 - j)) W := fun W g => tyK.slice_from W (some ⟨g, 0, none⟩) (n - 1) (n - 1) j (by omega)
  have hs3 : ∀ W, (Instr.slice 22 (.slice A n c) (some (.int .i64 ((j : Int) + 1))) none none).run Try.prog W = .ok (.slice (cutA 32 c (j + 1) A) (n - (j + 1)) (c - (j + 1))) W := fun W => by
    have := tyK.slice_from W A n c (j + 1) (by omega)
    rwa [show ((j + 1 : Nat) : Int) = (j : Int) + 1 by omega] at this
  have HS2 := Lib.hid hs2
  have HS3 := Lib.hid hs3
  clear hs2 hs3
  go_enter Try.func24, Try.ntmps24
  go_wp2_with (first
    | ((with_reducible refine at_loadg 3 ?_); refine wpList_load_rowg (by rfl) 29 (.tmp 3) rfl w.heap.size rfl 29 (bytesA k.1) _ K3.out Try.underlying29 rfl (szK k) ?_)
    | (go_at_call 30; refine HP.out.mono ?_; rintro e w1 ⟨rfl, b1⟩; have B2 := B1.trans (b1.mono (by simp)); have K4 := Lib.hid (below_blk b1 K3.out K3.out.lt))
    | ((with_reducible refine at_copyg 27 23 26 ?_); refine tyK.wpList_copy rfl (.tmp 23) (.tmp 26) 22 rfl (some ⟨w1.heap.size, 0, none⟩) (n - 1) (n - 1) B A c m rfl (by show Value.slice A j c = _; rw [HML.out]) (HM.out _ (B2.alloc B2.size _)) w1.heap.size 0 (fun _ _ => by rw [Nat.zero_mul]) 29 (List.replicate (n - 1) default) (Blk.new w1 _ _) (by rw [List.length_replicate]; omega) ?_; intro w2 n2 o2 b2; rw [E1.out] at b2; have B3 := (B2.alloc B2.size _).trans (o2.below (by simp; exact B2.size))))
  have hgB := B2.size
  have hw1 : IntKind.i64.wrap ((j : Int) + 1) = (j : Int) + 1 := by rw [IntKind.wrap_i64]; omega
  have HB2 := Lib.hid b2
  refine wp_region_held_drew (S := Below w.heap.size w) (by kernel_rfl) B3.drew ?_
  intro hS0
  refine wpAnyH_take (i := 0) (v := .slice (some ⟨w1.heap.size, 0, none⟩) (n - 1) (n - 1)) rfl (by kernel_rfl) (by kernel_rfl) (by kernel_rfl) (fun _ _ _ h => h) (Or.inl ⟨by rfl, fun W _ => by go_simp; try with_reducible rfl⟩) hS0 ?_
  simp only [Act.put, List.getElem_toArray, List.getElem_cons_zero, List.setIfInBounds_toArray, List.set_cons_succ, List.set_cons_zero]
  refine wpAnyH_take (i := 1) (v := .int .i64 (j : Int)) rfl (by kernel_rfl) (by kernel_rfl) (by kernel_rfl) (fun _ _ _ h => h) (Or.inl ⟨by rfl, fun W _ => by go_simp; try with_reducible rfl⟩) hS0 ?_
  simp only [Act.put, List.getElem_toArray, List.getElem_cons_zero, List.getElem_cons_succ, List.setIfInBounds_toArray, List.set_cons_succ, List.set_cons_zero]
  refine wpAnyH_take (i := 2) (v := .slice (cutA 32 (n - 1) j (some ⟨w1.heap.size, 0, none⟩)) (n - 1 - j) (n - 1 - j)) rfl (by kernel_rfl) (by kernel_rfl) (by kernel_rfl) (fun _ _ _ h => h) (Or.inl ⟨by rfl, fun W _ => by have h2 := HS2.out; go_simp; try with_reducible rfl⟩) hS0 ?_
  simp only [Act.put, List.getElem_toArray, List.getElem_cons_zero, List.getElem_cons_succ, List.setIfInBounds_toArray, List.set_cons_succ, List.set_cons_zero]
  refine wpAnyH_take (i := 3) (v := .slice A n c) rfl (by kernel_rfl) (by kernel_rfl) (by kernel_rfl) (fun _ _ _ h => h) (Or.inl ⟨by rfl, fun W _ => by go_simp; try with_reducible rfl⟩) hS0 ?_
  simp only [Act.put, List.getElem_toArray, List.getElem_cons_zero, List.getElem_cons_succ, List.setIfInBounds_toArray, List.set_cons_succ, List.set_cons_zero]
  refine wpAnyH_take (i := 4) (v := .int .i64 (j : Int)) rfl (by kernel_rfl) (by kernel_rfl) (by kernel_rfl) (fun _ _ _ h => h) (Or.inl ⟨by rfl, fun W _ => by go_simp; try with_reducible rfl⟩) hS0 ?_
  simp only [Act.put, List.getElem_toArray, List.getElem_cons_zero, List.getElem_cons_succ, List.setIfInBounds_toArray, List.set_cons_succ, List.set_cons_zero]
  refine wpAnyH_take (i := 5) (v := .int .i64 ((j : Int) + 1)) rfl (by kernel_rfl) (by kernel_rfl) (by kernel_rfl) (fun _ _ _ h => h) (Or.inl ⟨by rfl, fun W _ => by go_simp; try with_reducible rfl⟩) hS0 ?_
  simp only [Act.put, List.getElem_toArray, List.getElem_cons_zero, List.getElem_cons_succ, List.setIfInBounds_toArray, List.set_cons_succ, List.set_cons_zero]
  refine wpAnyH_take (i := 6) (v := .slice (cutA 32 c (j + 1) A) (n - (j + 1)) (c - (j + 1))) rfl (by kernel_rfl) (by kernel_rfl) (by kernel_rfl) (fun _ _ _ h => h) (Or.inl ⟨by rfl, fun W _ => by have h3 := HS3.out; go_simp; try with_reducible rfl⟩) hS0 ?_
  simp only [Act.put, List.getElem_toArray, List.getElem_cons_zero, List.getElem_cons_succ, List.setIfInBounds_toArray, List.set_cons_succ, List.set_cons_zero]
  refine wpAnyH_ready (rs := [7]) (by kernel_rfl) (by simp) ?_
  refine AllReadyH.cons rfl (fun Kq hK => ?_) AllReadyH.nil
  refine tyK.step_copy rfl (.tmp 30) (.tmp 34) 22 rfl (cutA 32 (n - 1) j (some ⟨w1.heap.size, 0, none⟩)) (n - 1 - j) (n - 1 - j) B (cutA 32 c (j + 1) A) (c - (j + 1)) d rfl (by show Value.slice (cutA 32 c (j + 1) A) (n - (j + 1)) (c - (j + 1)) = _; rw [HDL.out]) (HD.out _ B3.drew) w1.heap.size j ?_ 29 _ HB2.out.drew (by rw [List.length_append, List.length_replicate, HML.out, HDL.out]; omega) ?_
  · intro _ h2
    unfold cutA
    rw [if_neg (by omega)]
    simp only [Option.map_some, Addr.add]
    split
    · rename_i h0; rw [h0]
    · rw [Nat.zero_add]
  intro w4 n4 o4 b4
  rw [E3.out, ← HI2.out] at b4
  have B5 := B3.drew.trans (o4.below (by simp; exact hgB))
  refine hK.out _ _ B5 (fun _ => ?_)
  clear hK Kq
  refine wpAnyH_done (by kernel_rfl) ?_ _
  go_wp2_with fail
  go_ret2
  rw [HIL.out]
  exact ⟨_, rfl, own_of_blk b4 hgB HIL.out (by unfold maxLen; omega), B5⟩
/-- Remove: a row of the call's own -/
theorem remove_any (A : Option Addr) (c : Nat) (l : List K32) (k : K32) (B : Nat) (hl : l.length ≤ 100000) (w : World) (hB : B ≤ w.heap.size) (h : RowIn encK 32 w B A c l) :
    Calls Try.prog 24 #[.slice A l.length c, .agg (bytesA k.1)] w fun e w' => ∃ v, e = .returned (.tuple #[v, .bool (decide (k ∈ l))]) ∧ w'.ownsRow w.heap.size 29 32 v (l.erase k).length (cellsOf encK (l.erase k)) ∧ Below w.heap.size w w' := by
  by_cases hk : k ∈ l
  · rw [decide_eq_true hk]
    exact remove_is A c l k B hl w hB h hk
  · rw [decide_eq_false hk, List.erase_of_not_mem hk]
    exact remove_not A c l k B hl w hB h hk
end Go.Proofs.Ytklfbconbkbmpaa
