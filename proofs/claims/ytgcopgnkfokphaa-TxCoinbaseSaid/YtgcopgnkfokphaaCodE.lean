/- codec.Key and Bytes. -/
import Derived.Test.YtgcopgnkfokphaaCodD
import Derived.Test.YtgcopgnkfokphaaCopyT
import Derived.Test.YtgcopgnkfokphaaHeld
import Derived.Test.YtgcopgnkfokphaaKeyEq
import Derived.Deep.RegionHeld3
namespace Go.Proofs.Ytgcopgnkfokphaa
open Go.RowKit
def keyV (r : List UInt8 × List UInt8 × Int) : Value := .tuple #[.agg (bytesA r.1), .string ⟨r.2.1.toArray⟩, .int .i64 r.2.2]
theorem lit32 : (#[Value.int .u8 0, Value.int .u8 0, Value.int .u8 0, Value.int .u8 0, Value.int .u8 0, Value.int .u8 0, Value.int .u8 0, Value.int .u8 0, Value.int .u8 0, Value.int .u8 0, Value.int .u8 0, Value.int .u8 0, Value.int .u8 0, Value.int .u8 0, Value.int .u8 0, Value.int .u8 0, Value.int .u8 0, Value.int .u8 0, Value.int .u8 0, Value.int .u8 0, Value.int .u8 0, Value.int .u8 0, Value.int .u8 0, Value.int .u8 0, Value.int .u8 0, Value.int .u8 0, Value.int .u8 0, Value.int .u8 0, Value.int .u8 0, Value.int .u8 0, Value.int .u8 0, Value.int .u8 0] : Array Value) = bytesA (List.replicate 32 0) := by kernel_rfl
theorem sz32 (l : List UInt8) (h : l.length = 32) : (Try.prog.info? 27).map (·.size) = some (bytesA l).size := by rw [bytesA_size, h]; kernel_rfl
theorem rep32 : (List.replicate 32 (0 : UInt8)).length = 32 := by simp
set_option maxRecDepth 20000 in
set_option maxHeartbeats 1000000 in
theorem key_short (s : ByteArray) (h : s.size < 32) (w : World) :
    Calls Try.prog 57 #[.string s] w fun e w' => e = .returned (keyV (keyF s.data.toList)) ∧ Below w.heap.size w w' := by
  rw [show keyF s.data.toList = (List.replicate 32 0, [], 30) by unfold keyF; rw [if_pos (by rw [ba_len]; exact h)]]
  have hd : decide ((s.size : Int) < 32) = true := by simp; omega
  go_enter Try.func57, Try.ntmps57
  go_wp2_with ((with_reducible refine at_store 2 10 ?_); refine wpList_store_arr rfl 27 (.tmp 2) (.tmp 10) rfl rfl w.heap.size (bytesA (List.replicate 32 0)) rfl (congrArg Value.agg lit32) 27 (bytesA (List.replicate 32 0)) ((Blk.new w 27 (bytesA (List.replicate 32 0))).alloc _) (sz32 _ rep32) rfl (bytesA_one _) ?_; intro w3 o3 b3)
  exact bodyPost_ret (results_cell_tmp2 rfl _ _ w.heap.size 27 _ (0, 0) _ rfl b3 Try.underlying27 rfl (sz32 _ rep32)) rfl ⟨rfl, (((Below.refl _ _).alloc (Nat.le_refl _) _).alloc (by simp) _).trans (o3.below (by simp))⟩
set_option maxRecDepth 20000 in
set_option maxHeartbeats 1000000 in
theorem key_long (s : ByteArray) (h : 32 ≤ s.size) (hs : s.size ≤ 1000000) (w : World) :
    Calls Try.prog 57 #[.string s] w fun e w' => e = .returned (keyV (keyF s.data.toList)) ∧ Below w.heap.size w w' := by
  rw [show keyF s.data.toList = (s.data.toList.take 32, s.data.toList.drop 32, 0) by unfold keyF; rw [if_neg (by rw [ba_len]; omega)]]
  have hd : decide ((s.size : Int) < 32) = false := by simp; omega
  have hsl : ∀ W, (Instr.slice 9 (.string s) (some (.int .i64 32)) none none).run Try.prog W = .ok (.string ⟨(s.data.toList.drop 32).toArray⟩) W := fun W => by
    rw [run_slice_string_from_if W 9 s .i64 _ Try.underlying9, if_pos (by omega), ← ba_drop]; rfl
  have hl : (s.data.toList.take 32).length = 32 := by rw [List.length_take, ba_len]; omega
  have HL := Lib.hid hl
  clear hl
  obtain ⟨l, hl⟩ : ∃ l, s.data.toList.take 32 = l := ⟨_, rfl⟩
  obtain ⟨r, hr⟩ : ∃ r, s.data.toList.drop 32 = r := ⟨_, rfl⟩
  rw [hl] at HL
  rw [hr] at hsl
  rw [hl, hr]
  have HLL := Lib.hid hl
  clear hr hl
  have hc : ∀ (w2 : World) (l2 : List UInt8), Blk w2 (w.heap.size + 1) 27 (bytesA (s.data.toList.take 32)) → Blk w2 (w.heap.size + 1) 27 (bytesA l) := fun w2 _ hb => by rw [HLL.out] at hb; exact hb
  go_enter Try.func57, Try.ntmps57
  go_wp2_with ((with_reducible refine at_copy ?_); refine wpList_copy_text rfl (.tmp 11) (.tmp 12) 74 9 rfl 5 (w.heap.size + 1) 32 s (List.replicate 32 0) 27 Try.underlying74 (by kernel_rfl) (blk_new (w := w.alloc (.cells (bytesA (List.replicate 32 0)) 27)) 27 (bytesA (List.replicate 32 0)) (by simp)) rep32 h rfl rfl ?_; intro w3 o3 b3)
  have K1 := hc _ [] b3
  have K0 : Blk w3 w.heap.size 27 (bytesA (List.replicate 32 0)) := o3.blk ((Blk.new w 27 (bytesA (List.replicate 32 0))).alloc _) (by simp)
  have B0 : Below w.heap.size w w3 := (((Below.refl _ _).alloc (Nat.le_refl _) _).alloc (by simp) _).trans (o3.below (by simp))
  clear b3 o3 hc hd
  refine wp_region_held_drew (S := fun w' => Blk w' (w.heap.size + 1) 27 (bytesA l) ∧ (∃ cs : Array Value, cs.size = 32 ∧ Blk w' w.heap.size 27 cs) ∧ Below w.heap.size w w') (by kernel_rfl) ⟨K1.drew, ⟨_, by rw [bytesA_size, rep32], K0.drew⟩, B0.drew⟩ ?_
  clear K0 K1 B0
  intro hS0
  refine wpAnyH_take (i := 0) (v := .agg (bytesA l)) rfl (by kernel_rfl) (by kernel_rfl) (by kernel_rfl) (fun _ _ _ h => h) (yieldsIf_load_row (by rfl) 27 (.tmp 5) rfl (w.heap.size + 1) rfl 27 (bytesA l) _ (fun _ h => h.1) Try.underlying27 rfl (sz32 _ HL.out)) hS0 ?_
  simp only [Act.put, List.getElem_toArray, List.getElem_cons_zero, List.setIfInBounds_toArray, List.set_cons_succ, List.set_cons_zero]
  refine wpAnyH_take (i := 1) (v := .string s) rfl (by kernel_rfl) (by kernel_rfl) (by kernel_rfl) (fun _ _ _ h => h) (Or.inl ⟨by rfl, fun W _ => by go_simp; try with_reducible rfl⟩) hS0 ?_
  simp only [Act.put, List.getElem_toArray, List.getElem_cons_zero, List.getElem_cons_succ, List.setIfInBounds_toArray, List.set_cons_succ, List.set_cons_zero]
  refine wpAnyH_take (i := 2) (v := .int .i64 32) rfl (by kernel_rfl) (by kernel_rfl) (by kernel_rfl) (fun _ _ _ h => h) (Or.inl ⟨by rfl, fun W _ => by go_simp; try with_reducible rfl⟩) hS0 ?_
  simp only [Act.put, List.getElem_toArray, List.getElem_cons_zero, List.getElem_cons_succ, List.setIfInBounds_toArray, List.set_cons_succ, List.set_cons_zero]
  refine wpAnyH_take (i := 3) (v := .string ⟨r.toArray⟩) rfl (by kernel_rfl) (by kernel_rfl) (by kernel_rfl) (fun _ _ _ h => h) (Or.inl ⟨by rfl, fun W _ => by go_simp; try with_reducible rfl⟩) hS0 ?_
  simp only [Act.put, List.getElem_toArray, List.getElem_cons_zero, List.getElem_cons_succ, List.setIfInBounds_toArray, List.set_cons_succ, List.set_cons_zero]
  obtain ⟨cs, hcs, kcs⟩ := hS0.2.1
  refine wpAnyH_ready (rs := [4]) (by kernel_rfl) (by simp) ?_
  refine AllReadyH.cons rfl (fun Kq hK => ?_) AllReadyH.nil
  refine step_store_arr rfl 27 (.tmp 2) (.tmp 14) rfl rfl w.heap.size (bytesA l) rfl rfl 27 _ kcs (sz32 _ HL.out) (by rw [bytesA_size, HL.out, hcs]) (bytesA_one _) ?_
  intro w4 o4 b4
  refine hK.out _ _ ⟨o4.blk hS0.1 (by simp), ⟨_, by rw [bytesA_size, HL.out], b4⟩, hS0.2.2.trans (o4.below (by simp))⟩ (fun hS1 => ?_)
  clear hK Kq hS0
  refine wpAnyH_ready (rs := [5]) (by kernel_rfl) (by simp) ?_
  refine AllReadyH.cons rfl (fun Kq hK => ?_) AllReadyH.nil
  go_simp
  refine hK.out _ _ hS1 (fun _ => ?_)
  clear hK Kq
  refine wpAnyH_ready (rs := [6]) (by kernel_rfl) (by simp) ?_
  refine AllReadyH.cons rfl (fun Kq hK => ?_) AllReadyH.nil
  go_simp
  refine hK.out _ _ hS1 (fun _ => ?_)
  clear hK Kq
  refine wpAnyH_done (by kernel_rfl) ?_ _
  go_wp2_with fail
  exact bodyPost_ret (results_cell_tmp2 rfl _ _ w.heap.size 27 _ (0, 0) _ rfl b4 Try.underlying27 rfl (sz32 _ HL.out)) rfl ⟨rfl, hS1.2.2⟩
theorem ckey_any (s : ByteArray) (hs : s.size ≤ 1000000) (w : World) :
    Calls Try.prog 57 #[.string s] w fun e w' => e = .returned (keyV (keyF s.data.toList)) ∧ Below w.heap.size w w' := by
  by_cases h : s.size < 32
  · exact key_short s h w
  · exact key_long s (by omega) hs w
theorem bytes_any (l : List UInt8) (hl : l.length = 32) (w : World) :
    Calls Try.prog 19 #[.agg (bytesA l)] w fun e w' => e = .returned (.string ⟨l.toArray⟩) ∧ Below w.heap.size w w' := by
  have hconv := conv_blk (Blk.new w 27 (bytesA l)) hl
  clear hl
  go_enter Try.func19, Try.ntmps19
  go_wp2
  go_ret
  exact ⟨rfl, (Below.refl _ _).alloc (Nat.le_refl _) _⟩
end Go.Proofs.Ytgcopgnkfokphaa
