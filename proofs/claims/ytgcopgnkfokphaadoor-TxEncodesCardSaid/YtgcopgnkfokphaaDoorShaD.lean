/- sha.key: the hash's bytes. -/
import Derived.Test.YtgcopgnkfokphaaDoorShaQ
import Derived.Test.YtgcopgnkfokphaaDoorShaA
import Derived.Test.YtgcopgnkfokphaaDoorGenA
namespace Go.Proofs.YtgcopgnkfokphaaDoor
open Go.RowKit
set_option maxRecDepth 20000 in
set_option maxHeartbeats 1000000 in
theorem skey_any (h : Nat → BitVec 32) (w : World) :
    Calls Tryd.prog 52 #[.agg (uarr 8 h)] w fun e w' => e = .returned (.agg (bytesA (hashBytes h))) ∧ Below w.heap.size w w' := by
  go_enter Tryd.func52, Tryd.ntmps52
  go_wp2_with ((with_reducible refine at_load 1 ?_); refine wpList_load_row rfl 78 (.tmp 1) rfl w.heap.size rfl 78 (uarr 8 h) (0, 0) _ (((Blk.new w _ _).alloc _).alloc _) Tryd.underlying78 rfl (by rw [uarr_size]; kernel_rfl) ?_)
  go_loopw [8] (fun i wr => ∃ k : Nat, k ≤ 8 ∧ i = .int .i64 k ∧ Blk wr (w.heap.size + 2) 26 (bytesA (tab 32 fun j => if j < 4 * k then byteOf (h (j / 4)) (j % 4) else 0)) ∧
      Blk wr (w.heap.size + 1) 26 (bytesA (tab 32 fun _ => 0)) ∧ Below w.heap.size w wr)
    (fun i _ => 8 - (intOf i).toNat)
  case atStart =>
    refine ⟨0, by omega, rfl, ?_, ?_, ?_⟩
    · exact blk_new _ (bytesA (tab 32 fun j => if j < 4 * 0 then byteOf (h (j / 4)) (j % 4) else 0)) (by simp)
    · exact (blk_new _ (bytesA (tab 32 fun _ => 0)) (by simp)).alloc _
    · exact (((Below.refl _ _).alloc (Nat.le_refl _) _).alloc (by simp) _).alloc (by simp; omega) _
  case round =>
    obtain ⟨k, hk, rfl, h1, h2, hb⟩ := hrel
    by_cases hlt : k < 8
    · have hidx := run_index_one (P := Tryd.prog) 78 22 8 _ .i64 .u32 k _ Tryd.underlying78 Tryd.underlying22 (by kernel_rfl) hlt (uarr_get 8 h k hlt)
      have H1 := Lib.hid h1
      have H2 := Lib.hid h2
      clear h1 h2
      go_wp2_with fail
      go_loopw [12] (fun i wr => ∃ j : Nat, j ≤ 4 ∧ i = .int .i64 j ∧ Blk wr (w.heap.size + 2) 26 (bytesA (tab 32 fun i => if i < 4 * k + j then byteOf (h (i / 4)) (i % 4) else 0)) ∧
          Blk wr (w.heap.size + 1) 26 (bytesA (tab 32 fun _ => 0)) ∧ Below w.heap.size w wr)
        (fun i _ => 4 - (intOf i).toNat)
      case atStart => exact ⟨0, by omega, rfl, H1.out, H2.out, hb⟩
      case round =>
        clear hb H1 H2 hidx
        rename World => wq
        obtain ⟨j, hj, rfl, h1, h2, hb⟩ := hrel
        by_cases hl : j < 4
        · have hin : 4 * k + j < (tab 32 fun i => if i < 4 * k + j then byteOf (h (i / 4)) (i % 4) else 0).length := by rw [tab_len]; omega
          have hc : wq.cell? ⟨w.heap.size + 1 + 1, 4 * k + j, none⟩ = _ := (h1.cell _).trans (bytesA_get _ _ hin)
          have hf : wq.frozen? ⟨w.heap.size + 1 + 1, 4 * k + j, none⟩ = false := h1.frozen _
          have H1 := Lib.hid h1
          have H2 := Lib.hid h2
          clear h1 h2
          have i0 : (0 : Int) ≤ 24 - 8 * (j : Int) := by omega
          have i1 : 24 - 8 * (j : Int) ≤ 32 := by omega
          have i2 : 4 * (k : Int) + (j : Int) < 32 := by omega
          go_wp2
          go_roundw
          case rel =>
            refine ⟨j + 1, by omega, by go_num, ?_, H2.out.far (by simp) _, hb.setCell (by simp; omega) _⟩
            have hh := H1.out.set_ (4 * k + j) (.int .u8 ((byteOf (h k) j).toNat : Int))
            rw [bytesA_set, tab_set 32 _ (fun i => if i < 4 * k + (j + 1) then byteOf (h (i / 4)) (i % 4) else 0) _ _ (fun i hi => by
              by_cases e : i = 4 * k + j
              · subst e
                rw [if_pos (by omega), if_pos rfl, show (4 * k + j) / 4 = k by omega, show (4 * k + j) % 4 = j by omega]
              · rw [if_neg e]
                by_cases l : i < 4 * k + j
                · rw [if_pos l, if_pos (by omega)]
                · rw [if_neg l, if_neg (by omega)])] at hh
            rw [u32_shr, byteOf_eq]
            exact hh
          case measure => simp [intOf]; omega
        · go_wp2_with fail
          go_roundw
          case rel =>
            refine ⟨k + 1, by omega, by go_num, ?_, h2, hb⟩
            rw [show 4 * (k + 1) = 4 * k + j by omega]
            exact h1
          case measure => simp [intOf]; omega
    · have h1' : Blk wr (w.heap.size + 2) 26 (bytesA (hashBytes h)) := by
        unfold hashBytes
        rw [tab_congr 32 (fun j => byteOf (h (j / 4)) (j % 4)) (fun j => if j < 4 * k then byteOf (h (j / 4)) (j % 4) else 0) (fun i hi => (if_pos (by omega)).symm)]
        exact h1
      have H1 := Lib.hid h1'
      have H2 := Lib.hid h2
      clear h1 h2 h1'
      have hlen : (hashBytes h).length = 32 := tab_len _ _
      go_wp2_with (first
        | ((with_reducible refine at_load 3 ?_); refine wpList_load_row rfl 26 (.tmp 3) rfl (w.heap.size + 2) rfl 26 (bytesA (hashBytes h)) (0, 0) _ H1.out Tryd.underlying26 rfl (by rw [bytesA_size, hlen]; kernel_rfl) ?_)
        | ((with_reducible refine at_store 2 28 ?_); refine wpList_store_arr rfl 26 (.tmp 2) (.tmp 28) rfl rfl (w.heap.size + 1) (bytesA (hashBytes h)) rfl rfl 26 _ H2.out (by rw [bytesA_size, hlen]; kernel_rfl) (by rw [bytesA_size, bytesA_size, hlen, tab_len]) (bytesA_one _) ?_; intro w5 o5 b5))
      exact bodyPost_ret (results_cell_row rfl _ _ (w.heap.size + 1) 26 _ (0, 0) _ rfl b5 Tryd.underlying26 rfl (by rw [bytesA_size, hlen]; kernel_rfl)) rfl ⟨rfl, hb.trans (o5.below (by simp))⟩
end Go.Proofs.YtgcopgnkfokphaaDoor
