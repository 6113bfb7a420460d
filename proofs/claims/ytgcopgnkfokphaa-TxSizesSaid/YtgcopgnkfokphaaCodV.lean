/- The document's own answers for codec: Key. -/
import Derived.Test.YtgcopgnkfokphaaCodE
namespace Go.Proofs.Ytgcopgnkfokphaa
open Go.RowKit
set_option maxRecDepth 20000 in
set_option maxHeartbeats 1000000 in
theorem refKey_short (s : ByteArray) (h : s.size < 32) (w : World) :
    Calls Try.prog 34 #[.string s] w fun e w' => e = .returned (keyV (keyF s.data.toList)) ∧ Below w.heap.size w w' := by
  rw [show keyF s.data.toList = (List.replicate 32 0, [], 30) by unfold keyF; rw [if_pos (by rw [ba_len]; exact h)]]
  have hd : decide ((s.size : Int) < 32) = true := by simp; omega
  go_enter Try.func34, Try.ntmps34
  go_wp2_with (first
    | ((with_reducible refine at_store 5 7 ?_); refine wpList_store_arr rfl 27 (.tmp 5) (.tmp 7) rfl rfl (w.heap.size + 1) (bytesA (List.replicate 32 0)) rfl (congrArg Value.agg lit32) 27 (bytesA (List.replicate 32 0)) (blk_new (w := w.alloc (.cells (bytesA (List.replicate 32 0)) 27)) 27 (bytesA (List.replicate 32 0)) (by simp)) (sz32 _ rep32) rfl (bytesA_one _) ?_; intro w3 o3 b3; have HB3 := Lib.hid b3)
    | ((with_reducible refine at_load 5 ?_); refine wpList_load_row rfl 27 (.tmp 5) rfl (w.heap.size + 1) rfl 27 (bytesA (List.replicate 32 0)) (0, 0) _ b3 Try.underlying27 rfl (sz32 _ rep32) ?_)
    | ((with_reducible refine at_store 2 11 ?_); refine wpList_store_arr rfl 27 (.tmp 2) (.tmp 11) rfl rfl w.heap.size (bytesA (List.replicate 32 0)) rfl rfl 27 (bytesA (List.replicate 32 0)) (o3.blk ((Blk.new w 27 (bytesA (List.replicate 32 0))).alloc _) (by simp)) (sz32 _ rep32) rfl (bytesA_one _) ?_; intro w4 o4 b4))
  exact bodyPost_ret (results_cell_tmp2 rfl _ _ w.heap.size 27 _ (0, 0) _ rfl b4 Try.underlying27 rfl (sz32 _ rep32)) rfl ⟨rfl, ((((Below.refl _ _).alloc (Nat.le_refl _) _).alloc (by simp) _).trans (o3.below (by simp))).trans (o4.below (by simp))⟩
/-- the first k bytes of l, noughts behind -/
def headK (l : List UInt8) (k : Nat) : List UInt8 := tab 32 fun i => if i < k then l.getD i 0 else 0
theorem headK_all (l : List UInt8) (h : 32 ≤ l.length) : headK l 32 = l.take 32 := by
  unfold headK
  apply List.ext_getElem
  · rw [List.length_take, tab_len]; omega
  · intro i h1 h2
    have hi : i < 32 := by rw [tab_len] at h1; exact h1
    rw [tab_get, List.getElem_take]
    show (if i < 32 then l.getD i 0 else 0) = _
    rw [if_pos hi, List.getD_eq_getElem?_getD, List.getElem?_eq_getElem (by omega)]
    rfl
theorem headK_zero (l : List UInt8) : headK l 0 = List.replicate 32 0 := by
  unfold headK
  apply List.ext_getElem
  · rw [tab_len]; simp
  · intro i h1 h2
    rw [tab_get, List.getElem_replicate]
    exact if_neg (by omega)
theorem headK_set (l : List UInt8) (k : Nat) (h : k < l.length) : (headK l k).set k l[k] = headK l (k + 1) := by
  unfold headK
  refine tab_set 32 _ _ k _ (fun i hi => ?_)
  show (if i < k + 1 then l.getD i 0 else 0) = if i = k then l[k] else (if i < k then l.getD i 0 else 0)
  by_cases e : i = k
  · subst e
    rw [if_pos (by omega), if_pos rfl, List.getD_eq_getElem?_getD, List.getElem?_eq_getElem h]; rfl
  · rw [if_neg e]
    by_cases l : i < k
    · rw [if_pos l, if_pos (by omega)]
    · rw [if_neg l, if_neg (by omega)]
theorem headK_len (l : List UInt8) (k : Nat) : (headK l k).length = 32 := tab_len _ _
set_option maxRecDepth 20000 in
set_option maxHeartbeats 1000000 in
theorem refKey_long (s : ByteArray) (h : 32 ≤ s.size) (hs : s.size ≤ 1000000) (w : World) :
    Calls Try.prog 34 #[.string s] w fun e w' => e = .returned (keyV (keyF s.data.toList)) ∧ Below w.heap.size w w' := by
  rw [show keyF s.data.toList = (s.data.toList.take 32, s.data.toList.drop 32, 0) by unfold keyF; rw [if_neg (by rw [ba_len]; omega)]]
  have hd : decide ((s.size : Int) < 32) = false := by simp; omega
  have hsl : ∀ W, (Instr.slice 9 (.string s) (some (.int .i64 32)) none none).run Try.prog W = .ok (.string ⟨(s.data.toList.drop 32).toArray⟩) W := fun W => by
    rw [run_slice_string_from_if W 9 s .i64 _ Try.underlying9, if_pos (by omega), ← ba_drop]; rfl
  obtain ⟨r, hr⟩ : ∃ r, s.data.toList.drop 32 = r := ⟨_, rfl⟩
  rw [hr] at hsl
  rw [hr]
  clear hr
  have HSL := Lib.hid hsl
  clear hsl
  have hl : (s.data.toList.take 32).length = 32 := by rw [List.length_take, ba_len]; omega
  have HL := Lib.hid hl
  clear hl
  obtain ⟨l, hl⟩ : ∃ l, s.data.toList.take 32 = l := ⟨_, rfl⟩
  rw [hl] at HL
  rw [hl]
  have HLL := Lib.hid hl
  clear hl
  go_enter Try.func34, Try.ntmps34
  go_wp2_with (first
    | ((with_reducible refine at_store 5 7 ?_); refine wpList_store_arr rfl 27 (.tmp 5) (.tmp 7) rfl rfl (w.heap.size + 1) (bytesA (List.replicate 32 0)) rfl (congrArg Value.agg lit32) 27 (bytesA (List.replicate 32 0)) (blk_new (w := w.alloc (.cells (bytesA (List.replicate 32 0)) 27)) 27 (bytesA (List.replicate 32 0)) (by simp)) (sz32 _ rep32) rfl (bytesA_one _) ?_; intro w3 o3 b3; have HB3 := Lib.hid b3)
    | ((with_reducible refine at_load 5 ?_); refine wpList_load_row rfl 27 (.tmp 5) rfl (w.heap.size + 1) rfl 27 (bytesA (List.replicate 32 0)) (0, 0) _ b3 Try.underlying27 rfl (sz32 _ rep32) ?_)
    | ((with_reducible refine at_store 2 11 ?_); refine wpList_store_arr rfl 27 (.tmp 2) (.tmp 11) rfl rfl w.heap.size (bytesA (List.replicate 32 0)) rfl rfl 27 (bytesA (List.replicate 32 0)) (o3.blk ((Blk.new w 27 (bytesA (List.replicate 32 0))).alloc _) (by simp)) (sz32 _ rep32) rfl (bytesA_one _) ?_; intro w4 o4 b4))
  go_loopw [6] (fun i wr => ∃ k : Nat, k ≤ 32 ∧ i = .int .i64 k ∧ Hid (Blk wr (w.heap.size + 1) 27 (bytesA (headK s.data.toList k))) ∧ (∃ cs : Array Value, cs.size = 32 ∧ Hid (Blk wr w.heap.size 27 cs)) ∧ Below w.heap.size w wr) (fun i _ => 32 - (intOf i).toNat)
  case atStart =>
    refine ⟨0, by omega, rfl, Lib.hid ?_, ⟨_, ?_, Lib.hid (o3.blk ((Blk.new w 27 (bytesA (List.replicate 32 0))).alloc _) (by simp))⟩, (((Below.refl _ _).alloc (Nat.le_refl _) _).alloc (by simp) _).trans (o3.below (by simp))⟩
    · rw [headK_zero]; exact b3
    · rw [bytesA_size, rep32]
  case round =>
    clear b3 HB3 o3 hd
    obtain ⟨k, hk, rfl, HB, ⟨cs, hcs, HC⟩, hb⟩ := hrel
    by_cases hlt : k < 32
    · have hks : k < s.size := by omega
      go_wp2_with (first
        | ((with_reducible refine at_store 20 19 ?_); refine wpList_store_cell rfl 5 (.tmp 20) (.tmp 19) rfl rfl (w.heap.size + 1) k (.int .u8 (s[k].toNat : Int)) rfl rfl rfl 27 _ HB.out (by rw [bytesA_size, headK_len]; exact hlt) (by kernel_rfl) ?_; intro w5 o5 b5))
      go_roundw
      case rel =>
        refine ⟨k + 1, by omega, by go_num, Lib.hid ?_, ⟨cs, hcs, Lib.hid (o5.blk HC.out (by simp))⟩, hb.trans (o5.below (by simp))⟩
        rw [bytesA_set, ← ba_at s k hks, headK_set _ _ (by rw [ba_len]; exact hks)] at b5
        exact b5
      case measure => simp [intOf]; omega
    · have hk32 : k = 32 := by omega
      subst hk32
      have hB := HB.out
      rw [headK_all _ (by rw [ba_len]; exact h)] at hB
      rw [HLL.out] at hB
      clear HB
      have HB := Lib.hid hB
      clear hB
      have hsl := HSL.out
      go_wp2_with fail
      refine wp_region_held_drew (S := fun w' => Blk w' (w.heap.size + 1) 27 (bytesA l) ∧ (∃ cs : Array Value, cs.size = 32 ∧ Blk w' w.heap.size 27 cs) ∧ Below w.heap.size w w') (by kernel_rfl) ⟨HB.out.drew, ⟨_, hcs, HC.out.drew⟩, hb.drew⟩ ?_
      clear HB HC hb hcs
      intro hS0
      refine wpAnyH_take (i := 0) (v := .agg (bytesA l)) rfl (by kernel_rfl) (by kernel_rfl) (by kernel_rfl) (fun _ _ _ h => h) (yieldsIf_load_row (by rfl) 27 (.tmp 5) rfl (w.heap.size + 1) rfl 27 (bytesA l) _ (fun _ h => h.1) Try.underlying27 rfl (sz32 _ HL.out)) hS0 ?_
      (simp only [Act.put, List.getElem_toArray, List.getElem_cons_zero, List.setIfInBounds_toArray, List.set_cons_succ, List.set_cons_zero])
      refine wpAnyH_take (i := 1) (v := .string s) rfl (by kernel_rfl) (by kernel_rfl) (by kernel_rfl) (fun _ _ _ h => h) (Or.inl ⟨by rfl, fun W _ => by go_simp; try with_reducible rfl⟩) hS0 ?_
      (simp only [Act.put, List.getElem_toArray, List.getElem_cons_zero, List.getElem_cons_succ, List.setIfInBounds_toArray, List.set_cons_succ, List.set_cons_zero])
      refine wpAnyH_take (i := 2) (v := .string ⟨r.toArray⟩) rfl (by kernel_rfl) (by kernel_rfl) (by kernel_rfl) (fun _ _ _ h => h) (Or.inl ⟨by rfl, fun W _ => by go_simp; try with_reducible rfl⟩) hS0 ?_
      (simp only [Act.put, List.getElem_toArray, List.getElem_cons_zero, List.getElem_cons_succ, List.setIfInBounds_toArray, List.set_cons_succ, List.set_cons_zero])
      obtain ⟨cs, hcs, kcs⟩ := hS0.2.1
      refine wpAnyH_ready (rs := [3]) (by kernel_rfl) (by simp) ?_
      refine AllReadyH.cons rfl (fun Kq hK => ?_) AllReadyH.nil
      refine step_store_arr rfl 27 (.tmp 2) (.tmp 21) rfl rfl w.heap.size (bytesA l) rfl rfl 27 _ kcs (sz32 _ HL.out) (by rw [bytesA_size, HL.out, hcs]) (bytesA_one _) ?_
      intro w4 o4 b4
      refine hK.out _ _ ⟨o4.blk hS0.1 (by simp), ⟨_, by rw [bytesA_size, HL.out], b4⟩, hS0.2.2.trans (o4.below (by simp))⟩ (fun hS1 => ?_)
      clear hK Kq hS0
      refine wpAnyH_ready (rs := [4]) (by kernel_rfl) (by simp) ?_
      refine AllReadyH.cons rfl (fun Kq hK => ?_) AllReadyH.nil
      go_simp
      refine hK.out _ _ hS1 (fun _ => ?_)
      clear hK Kq
      refine wpAnyH_ready (rs := [5]) (by kernel_rfl) (by simp) ?_
      refine AllReadyH.cons rfl (fun Kq hK => ?_) AllReadyH.nil
      go_simp
      refine hK.out _ _ hS1 (fun _ => ?_)
      clear hK Kq
      refine wpAnyH_done (by kernel_rfl) ?_ _
      go_wp2_with fail
      exact bodyPost_ret (results_cell_tmp2 rfl _ _ w.heap.size 27 _ (0, 0) _ rfl b4 Try.underlying27 rfl (sz32 _ HL.out)) rfl ⟨rfl, hS1.2.2⟩
theorem refKey_any (s : ByteArray) (hs : s.size ≤ 1000000) (w : World) :
    Calls Try.prog 34 #[.string s] w fun e w' => e = .returned (keyV (keyF s.data.toList)) ∧ Below w.heap.size w w' := by
  by_cases h : s.size < 32
  · exact refKey_short s h w
  · exact refKey_long s (by omega) hs w
end Go.Proofs.Ytgcopgnkfokphaa
