/- The document's own answers for sha: the bytes of a key. -/
import Derived.Test.YtgcopgnkfokphaaDoorGenA
namespace Go.Proofs.YtgcopgnkfokphaaDoor
open Go.RowKit
theorem ref_info5 : (Tryd.prog.info? 5).map (fun i => (i.zero, i.size, i.bytes)) = some (some (.int .u8 0), 1, 1) := by kernel_rfl
set_option maxRecDepth 20000 in
set_option maxHeartbeats 1000000 in
theorem srefBytes_any (l : List UInt8) (hl : l.length = 32) (w : World) :
    Calls Tryd.prog 38 #[.agg (bytesA l)] w fun e w' => e = .returned (.string ⟨l.toArray⟩) ∧ Below w.heap.size w w' := by
  have HL := Lib.hid hl
  clear hl
  go_enter Tryd.func38, Tryd.ntmps38
  go_wp2_with fail
  go_loopw [3, 4] (fun v i wr => ∃ j : Nat, j ≤ 32 ∧ i = .int .i64 j ∧ wr.ownsRow (w.heap.size + 1) 5 1 v j (Lib.byteCells (l.take j)) ∧ Blk wr w.heap.size 26 (bytesA l) ∧ Below w.heap.size w wr ∧ w.heap.size + 1 ≤ wr.heap.size)
    (fun _ i _ => 32 - (intOf i).toNat)
  case atStart =>
    refine ⟨0, by omega, rfl, ?_, (Blk.new _ _ _).alloc _, ((Below.refl _ _).alloc (Nat.le_refl _) _).alloc (by simp) _, by simp⟩
    have := World.ownsRow_lit (e := 5) (size := 1) (base := w.heap.size + 1) (w.alloc (.cells (bytesA l) 26)) #[] 0 (by simp) (by unfold maxLen; omega) (by simp)
    simpa [Lib.byteCells] using this
  case round =>
    obtain ⟨j, hj, rfl, hown, hk, hb, hs⟩ := hrel
    have HO := Lib.hid hown
    have HK := Lib.hid hk
    by_cases hlt : j < 32
    · have hlj : j < l.length := by rw [HL.out]; exact hlt
      have hc : wr.cell? ⟨w.heap.size, j, none⟩ = _ := (hk.cell _).trans (bytesA_get l j hlj)
      clear hown hk
      go_wp2_with (at_builtin; refine wpList_append1 rfl (.tmp 10) (.tmp 14) 44 rfl (w.heap.size + 1) 5 _ 1 Tryd.underlying44 ref_info5 rfl (by omega) _ _ _ rfl (HO.out.alloc _) _ 1 (.int .u8 (l[j].toNat : Int)) rfl (Blk.new _ _ _) rfl (by omega) (by simp; omega) ?_; intro v' w' o' b')
      go_roundw
      case rel =>
        refine ⟨j + 1, by omega, by go_num, ?_, below_blk b' (HK.out.alloc _) (by omega), (hb.alloc hb.size _).trans (b'.mono (by omega)), by have := b'.size; simp at this; omega⟩
        rw [show Lib.byteCells (l.take (j + 1)) = Lib.byteCells (l.take j) ++ [.int .u8 (l[j].toNat : Int)] by rw [List.take_succ_eq_append_getElem hlj]; unfold Lib.byteCells; rw [List.map_append]; rfl]
        exact o'
      case measure => simp [intOf]; omega
    · have hj32 : j = 32 := by omega
      subst hj32
      have hconv := conv_own (w := wr) (base := w.heap.size + 1) (v := u3) (l := l) (by have := HO.out; rw [List.take_of_length_le (by rw [HL.out]; omega)] at this; rw [HL.out]; exact this)
      clear hown hk HO HK
      go_wp2
      go_ret
      exact ⟨rfl, hb⟩
end Go.Proofs.YtgcopgnkfokphaaDoor
