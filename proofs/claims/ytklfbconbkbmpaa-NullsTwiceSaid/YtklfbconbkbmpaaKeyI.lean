/- keys.Has, Insert. -/
import Derived.Test.YtklfbconbkbmpaaKeyL
import Derived.Test.YtklfbconbkbmpaaGenA
namespace Go.Proofs.Ytklfbconbkbmpaa
open Go.RowKit Go.Sort
theorem own_mono {w : World} {base base' : Nat} {e : TypeId} {size n : Nat} {v : Value} {xs : List Value} (h : w.ownsRow base e size v n xs) (hb : base' ≤ base) : w.ownsRow base' e size v n xs :=
  ⟨h.1, h.2.imp id fun ⟨g, cap, cur, h1, h2, h3⟩ => ⟨g, cap, cur, h1, Nat.le_trans hb h2, h3⟩⟩
theorem zvK : ∃ zv, (Try.prog.info? 29).map (fun i => (i.zero, i.bytes)) = some (some zv, 32) ∧ zv.cells = (encK default).toArray := by
  have h : (Try.prog.info? 29).map (fun i => (i.zero, i.bytes)) = some (some (.agg (bytesA (List.replicate 32 0))), 32) := by kernel_rfl
  exact ⟨_, h, by rw [encK_arr]; rfl⟩
theorem own_of_blk {w : World} {base g n : Nat} {l : List K32} (hb : Blk w g 29 (cellsOf encK l).toArray) (hg : base ≤ g) (hn : l.length = n) (hm : n ≤ maxLen) : w.ownsRow base 29 32 (.slice (some ⟨g, 0, none⟩) n n) n (cellsOf encK l) :=
  ⟨by rw [cellsOf_len encK_len, hn], .inr ⟨g, n, _, rfl, hg, hb, Nat.le_refl _, hm, by simp [cellsOf_len encK_len, hn], by rw [List.take_of_length_le]; simp [cellsOf_len encK_len, hn]⟩⟩
set_option maxRecDepth 20000 in
set_option maxHeartbeats 1000000 in
theorem insert_is (A : Option Addr) (c : Nat) (l : List K32) (k : K32) (B : Nat) (hl : l.length ≤ 100000) (w : World) (hB : B ≤ w.heap.size) (h : RowIn encK 32 w B A c l) (hk : k ∈ l) :
    Calls Try.prog 20 #[.slice A l.length c, .agg (bytesA k.1)] w fun e w' => ∃ v, e = .returned (.tuple #[v, .bool false]) ∧ w'.ownsRow w.heap.size 29 32 v l.length (cellsOf encK l) ∧ Below w.heap.size w w' := by
  have B1 : Below w.heap.size w (w.alloc (.cells (bytesA k.1) 29)) := (Below.refl _ _).alloc (Nat.le_refl _) _
  have K3 := Lib.hid (Blk.new w 29 (bytesA k.1))
  have HP := Lib.hid (place_any A c l k B (by omega) (w.alloc (.cells (bytesA k.1) 29)) (by simp; omega) (h.below (B1.mono hB)))
  have HC := Lib.hid (fun W (hW : Below w.heap.size w W) => clone_any A c l B W (by omega) (Nat.le_trans hB hW.size) (h.below (hW.mono hB)))
  clear h
  rw [decide_eq_true hk] at HP
  obtain ⟨j, hj⟩ : ∃ j, placeI k l = j := ⟨_, rfl⟩
  rw [hj] at HP
  obtain ⟨n, hn⟩ : ∃ n, l.length = n := ⟨_, rfl⟩
  rw [hn] at HP HC ⊢
  clear hn hj hl
  go_enter Try.func20, Try.ntmps20
  go_wp2_with (first
    | ((with_reducible refine at_loadg 3 ?_); refine wpList_load_rowg (by rfl) 29 (.tmp 3) rfl w.heap.size rfl 29 (bytesA k.1) _ K3.out Try.underlying29 rfl (szK k) ?_)
    | (go_at_call 30; refine HP.out.mono ?_; rintro e w1 ⟨rfl, b1⟩; have B2 := B1.trans (b1.mono (by simp)))
    | (go_at_call 18; refine (HC.out _ B2).mono ?_; rintro e w2 ⟨v, rfl, o2, b2⟩))
  go_ret2
  obtain ⟨A2, c2, rfl⟩ := own_shape o2
  exact ⟨_, rfl, own_mono o2 B2.size, B2.trans (b2.mono B2.size)⟩
set_option maxRecDepth 20000 in
set_option maxHeartbeats 1000000 in
theorem insert_not (A : Option Addr) (c : Nat) (l : List K32) (k : K32) (B : Nat) (hl : l.length ≤ 100000) (w : World) (hB : B ≤ w.heap.size) (h : RowIn encK 32 w B A c l) (hk : k ∉ l) :
    Calls Try.prog 20 #[.slice A l.length c, .agg (bytesA k.1)] w fun e w' => ∃ v, e = .returned (.tuple #[v, .bool true]) ∧ w'.ownsRow w.heap.size 29 32 v (insK k l).length (cellsOf encK (insK k l)) ∧ Below w.heap.size w w' := by
  have B1 : Below w.heap.size w (w.alloc (.cells (bytesA k.1) 29)) := (Below.refl _ _).alloc (Nat.le_refl _) _
  have K3 := Lib.hid (Blk.new w 29 (bytesA k.1))
  have HP := Lib.hid (place_any A c l k B (by omega) (w.alloc (.cells (bytesA k.1) 29)) (by simp; omega) (h.below (B1.mono hB)))
  have HH := Lib.hid (fun W (hW : Below w.heap.size w W) => h.below (w' := W) (hW.mono hB))
  have hc := h.le
  have hcm := h.max
  clear h
  rw [decide_eq_false hk] at HP
  have HI := Lib.hid (ins_place k l hk)
  have hple := placeI_le k l
  obtain ⟨j, hj⟩ : ∃ j, placeI k l = j := ⟨_, rfl⟩
  rw [hj] at HP HI hple
  obtain ⟨n, hn⟩ : ∃ n, l.length = n := ⟨_, rfl⟩
  have HN := Lib.hid hn
  rw [hn] at HP hple hl hc ⊢
  clear hn hj
  obtain ⟨zv, hz1, hz2⟩ := zvK
  have hmk : ∀ W, (Instr.makeSlice 22 (.int .i64 ((n : Int) + 1)) (.int .i64 ((n : Int) + 1))).run Try.prog W = .ok (.slice (some ⟨W.heap.size, 0, none⟩) (n + 1) (n + 1)) (W.alloc (.cells (cellsOf encK (List.replicate (n + 1) default)).toArray 29)) := fun W => by
    have := tyK.made W default zv 32 hz1 hz2 (by omega) .i64 .i64 (n + 1) (by omega)
    rwa [show ((n + 1 : Nat) : Int) = (n : Int) + 1 by omega] at this
  have hs1 : ∀ W, (Instr.slice 22 (.slice A n c) none (some (.int .i64 (j : Int))) none).run Try.prog W = .ok (.slice A j c) W := fun W => tyK.slice_to W A n c j (by omega)
  have d1 : (0 : Int) ≤ (j : Int) := by omega
  have d2 : (j : Int) < (n : Int) + 1 := by omega
  clear hz1 hz2
  obtain ⟨m, hm⟩ : ∃ m, l.take j = m := ⟨_, rfl⟩
  obtain ⟨d, hd⟩ : ∃ d, l.drop j = d := ⟨_, rfl⟩
  have HML := Lib.hid (show m.length = j by rw [← hm, List.length_take, HN.out]; omega)
  have HDL := Lib.hid (show d.length = n - j by rw [← hd, List.length_drop, HN.out])
  have HM := Lib.hid (fun W hW => hm ▸ (HH.out W hW).take encK_len j)
  have HD := Lib.hid (fun W hW => hd ▸ (HH.out W hW).drop encK_len j (by rw [HN.out]; omega))
  have HI2 := Lib.hid (show insK k l = m ++ k :: d by rw [HI.out, hm, hd])
  have HIL := Lib.hid (show (insK k l).length = n + 1 by rw [HI2.out, List.length_append, List.length_cons, HML.out, HDL.out]; omega)
  clear hm hd
  have E1 := Lib.hid (show (List.replicate (n + 1) (default : K32)).take 0 ++ m.take (n + 1) ++ (List.replicate (n + 1) (default : K32)).drop (0 + min m.length (n + 1)) = m ++ List.replicate (n + 1 - j) default by
    rw [List.take_zero, List.nil_append, List.take_of_length_le (by rw [HML.out]; omega), List.drop_replicate, HML.out, Nat.zero_add, Nat.min_eq_left (by omega)])
  have E2 := Lib.hid (show (m ++ List.replicate (n + 1 - j) (default : K32)).set j k = m ++ k :: List.replicate (n - j) default by
    rw [show n + 1 - j = (n - j) + 1 by omega, List.replicate_succ, List.set_append_right _ _ (by rw [HML.out]; exact Nat.le_refl _), HML.out, Nat.sub_self, List.set_cons_zero])
  have E3 := Lib.hid (show (m ++ k :: List.replicate (n - j) (default : K32)).take (j + 1) ++ d.take (n + 1 - (j + 1)) ++ (m ++ k :: List.replicate (n - j) (default : K32)).drop (j + 1 + min d.length (n + 1 - (j + 1))) = m ++ k :: d by
    have e1 : (m ++ k :: List.replicate (n - j) (default : K32)).take (j + 1) = m ++ [k] := by
      rw [List.take_append, List.take_of_length_le (by rw [HML.out]; omega), HML.out, show j + 1 - j = 1 by omega]; rfl
    have e2 : (m ++ k :: List.replicate (n - j) (default : K32)).drop (j + 1 + min d.length (n + 1 - (j + 1))) = [] := by
      apply List.drop_of_length_le
      rw [List.length_append, List.length_cons, List.length_replicate, HML.out, HDL.out]; omega
    rw [e1, e2, List.take_of_length_le (by rw [HDL.out]; omega)]; simp)
  have hs2 : ∀ W g, (Instr.slice 22 (.slice (some ⟨g, 0, none⟩) (n + 1) (n + 1)) (some (.int .i64 ((j : Int) + 1))) none none).run Try.prog W = .ok (.slice (cutA 32 (n + 1) (j + 1) (some ⟨g, 0, none⟩)) (n + 1 - (j + 1)) (n + 1 - (j + 1))) W := fun W g => by
    have := tyK.slice_from W (some ⟨g, 0, none⟩) (n + 1) (n + 1) (j + 1) (by omega)
    rwa [show ((j + 1 : Nat) : Int) = (j : Int) + 1 by omega] at this
  have hs3 : ∀ W, (Instr.slice 22 (.slice A n c) (some (.int .i64 (j : Int))) none none).run Try.prog W = .ok (.slice (cutA 32 c j A) (n - j) (c - j)) W := fun W => tyK.slice_from W A n c j (by omega)
  have HS2 := Lib.hid hs2
  have HS3 := Lib.hid hs3
  clear hs2 hs3
  go_enter Try.func20, Try.ntmps20
  go_wp2_with (first
    | ((with_reducible refine at_loadg 3 ?_); refine wpList_load_rowg (by rfl) 29 (.tmp 3) rfl w.heap.size rfl 29 (bytesA k.1) _ K3.out Try.underlying29 rfl (szK k) ?_)
    | (go_at_call 30; refine HP.out.mono ?_; rintro e w1 ⟨rfl, b1⟩; have B2 := B1.trans (b1.mono (by simp)); have K4 := Lib.hid (below_blk b1 K3.out K3.out.lt))
    | ((with_reducible refine at_copyg 26 22 25 ?_); refine tyK.wpList_copy rfl (.tmp 22) (.tmp 25) 22 rfl (some ⟨w1.heap.size, 0, none⟩) (n + 1) (n + 1) B A c m rfl (by show Value.slice A j c = _; rw [HML.out]) (HM.out _ (B2.alloc B2.size _)) w1.heap.size 0 (fun _ _ => by rw [Nat.zero_mul]) 29 (List.replicate (n + 1) default) (Blk.new w1 _ _) (by rw [List.length_replicate]; omega) ?_; intro w2 n2 o2 b2; rw [E1.out] at b2; have B3 := (B2.alloc B2.size _).trans (o2.below (by simp; exact B2.size)); have K5 := Lib.hid (o2.blk (K4.out.alloc _) (by have := K4.out.lt; simp; omega)); have HB2 := Lib.hid b2)
    | ((with_reducible refine at_loadg 3 ?_); refine wpList_load_rowg (by rfl) 29 (.tmp 3) rfl w.heap.size rfl 29 (bytesA k.1) _ K5.out Try.underlying29 rfl (szK k) ?_)
    | ((with_reducible refine at_store 30 29 ?_); refine tyK.wpList_store rfl (.tmp 30) (.tmp 29) rfl rfl w1.heap.size j k (by first | rfl | (simp only [Nat.zero_add]; rfl)) rfl 29 _ HB2.out (by rw [List.length_append, List.length_replicate, HML.out]; omega) ?_; intro w3 o3 b3; rw [E2.out] at b3; have B4 := B3.trans (o3.below (by simp; exact B2.size)); have HB3 := Lib.hid b3))
  have hw3 : w1.heap.size < w3.heap.size := HB3.out.lt
  have hgB := B2.size
  have hw1 : IntKind.i64.wrap ((j : Int) + 1) = (j : Int) + 1 := by rw [IntKind.wrap_i64]; omega
  refine wp_region_held_drew (S := Below w.heap.size w) (by kernel_rfl) B4.drew ?_
  intro hS0
  refine wpAnyH_take (i := 0) (v := .slice (some ⟨w1.heap.size, 0, none⟩) (n + 1) (n + 1)) rfl (by kernel_rfl) (by kernel_rfl) (by kernel_rfl) (fun _ _ _ h => h) (Or.inl ⟨by rfl, fun W _ => by go_simp; try with_reducible rfl⟩) hS0 ?_
  simp only [Act.put, List.getElem_toArray, List.getElem_cons_zero, List.setIfInBounds_toArray, List.set_cons_succ, List.set_cons_zero]
  refine wpAnyH_take (i := 1) (v := .int .i64 (j : Int)) rfl (by kernel_rfl) (by kernel_rfl) (by kernel_rfl) (fun _ _ _ h => h) (Or.inl ⟨by rfl, fun W _ => by go_simp; try with_reducible rfl⟩) hS0 ?_
  simp only [Act.put, List.getElem_toArray, List.getElem_cons_zero, List.getElem_cons_succ, List.setIfInBounds_toArray, List.set_cons_succ, List.set_cons_zero]
  refine wpAnyH_take (i := 2) (v := .int .i64 ((j : Int) + 1)) rfl (by kernel_rfl) (by kernel_rfl) (by kernel_rfl) (fun _ _ _ h => h) (Or.inl ⟨by rfl, fun W _ => by go_simp; try with_reducible rfl⟩) hS0 ?_
  simp only [Act.put, List.getElem_toArray, List.getElem_cons_zero, List.getElem_cons_succ, List.setIfInBounds_toArray, List.set_cons_succ, List.set_cons_zero]
  refine wpAnyH_take (i := 3) (v := .slice (cutA 32 (n + 1) (j + 1) (some ⟨w1.heap.size, 0, none⟩)) (n + 1 - (j + 1)) (n + 1 - (j + 1))) rfl (by kernel_rfl) (by kernel_rfl) (by kernel_rfl) (fun _ _ _ h => h) (Or.inl ⟨by rfl, fun W _ => by have h2 := HS2.out; go_simp; try with_reducible rfl⟩) hS0 ?_
  simp only [Act.put, List.getElem_toArray, List.getElem_cons_zero, List.getElem_cons_succ, List.setIfInBounds_toArray, List.set_cons_succ, List.set_cons_zero]
  refine wpAnyH_take (i := 4) (v := .slice A n c) rfl (by kernel_rfl) (by kernel_rfl) (by kernel_rfl) (fun _ _ _ h => h) (Or.inl ⟨by rfl, fun W _ => by go_simp; try with_reducible rfl⟩) hS0 ?_
  simp only [Act.put, List.getElem_toArray, List.getElem_cons_zero, List.getElem_cons_succ, List.setIfInBounds_toArray, List.set_cons_succ, List.set_cons_zero]
  refine wpAnyH_take (i := 5) (v := .int .i64 (j : Int)) rfl (by kernel_rfl) (by kernel_rfl) (by kernel_rfl) (fun _ _ _ h => h) (Or.inl ⟨by rfl, fun W _ => by go_simp; try with_reducible rfl⟩) hS0 ?_
  simp only [Act.put, List.getElem_toArray, List.getElem_cons_zero, List.getElem_cons_succ, List.setIfInBounds_toArray, List.set_cons_succ, List.set_cons_zero]
  refine wpAnyH_take (i := 6) (v := .slice (cutA 32 c j A) (n - j) (c - j)) rfl (by kernel_rfl) (by kernel_rfl) (by kernel_rfl) (fun _ _ _ h => h) (Or.inl ⟨by rfl, fun W _ => by have h3 := HS3.out; go_simp; try with_reducible rfl⟩) hS0 ?_
  simp only [Act.put, List.getElem_toArray, List.getElem_cons_zero, List.getElem_cons_succ, List.setIfInBounds_toArray, List.set_cons_succ, List.set_cons_zero]
  refine wpAnyH_ready (rs := [7]) (by kernel_rfl) (by simp) ?_
  refine AllReadyH.cons rfl (fun Kq hK => ?_) AllReadyH.nil
  refine tyK.step_copy rfl (.tmp 34) (.tmp 37) 22 rfl (cutA 32 (n + 1) (j + 1) (some ⟨w1.heap.size, 0, none⟩)) (n + 1 - (j + 1)) (n + 1 - (j + 1)) B (cutA 32 c j A) (c - j) d rfl (by show Value.slice (cutA 32 c j A) (n - j) (c - j) = _; rw [HDL.out]) (HD.out _ B4.drew) w1.heap.size (j + 1) ?_ 29 _ HB3.out.drew (by rw [List.length_append, List.length_cons, List.length_replicate, HML.out, HDL.out]; omega) ?_
  · intro _ h2
    unfold cutA
    rw [if_neg (by omega)]
    simp [Addr.add]
  intro w4 n4 o4 b4
  rw [E3.out, ← HI2.out] at b4
  have B5 := B4.drew.trans (o4.below (by simp; exact hgB))
  refine hK.out _ _ B5 (fun _ => ?_)
  clear hK Kq
  refine wpAnyH_done (by kernel_rfl) ?_ _
  go_wp2_with fail
  go_ret2
  rw [HIL.out]
  exact ⟨_, rfl, own_of_blk b4 hgB HIL.out (by unfold maxLen; omega), B5⟩
/-- Insert: a row of the call's own -/
theorem insert_any (A : Option Addr) (c : Nat) (l : List K32) (k : K32) (B : Nat) (hl : l.length ≤ 100000) (w : World) (hB : B ≤ w.heap.size) (h : RowIn encK 32 w B A c l) :
    Calls Try.prog 20 #[.slice A l.length c, .agg (bytesA k.1)] w fun e w' => ∃ v, e = .returned (.tuple #[v, .bool !(decide (k ∈ l))]) ∧ w'.ownsRow w.heap.size 29 32 v (insK k l).length (cellsOf encK (insK k l)) ∧ Below w.heap.size w w' := by
  by_cases hk : k ∈ l
  · have := insert_is A c l k B hl w hB h hk
    have e : insK k l = l := by unfold insK; rw [if_pos hk]
    rw [e, decide_eq_true hk]
    exact this
  · have := insert_not A c l k B hl w hB h hk
    rw [decide_eq_false hk]
    exact this
end Go.Proofs.Ytklfbconbkbmpaa
