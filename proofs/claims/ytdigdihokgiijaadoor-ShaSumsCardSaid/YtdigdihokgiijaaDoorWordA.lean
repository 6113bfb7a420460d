/- sha.Words: the numbers of bytes. -/
import Derived.Test.YtdigdihokgiijaaDoorShaA
import Derived.Test.YtdigdihokgiijaaDoorShaP
import Derived.Test.YtdigdihokgiijaaDoorMake
namespace Go.Proofs.YtdigdihokgiijaaDoor
open Go.RowKit
/-- the words of bytes, as the model keeps them -/
def wordsV (l : List UInt8) (m : Nat) : List Value := (uarr m (wordL l)).toList
theorem made_u32 (m : Nat) : madeCells #[Value.int .u32 0] m = uarr m (fun _ => 0) := by
  apply Array.ext_getElem?
  intro i
  by_cases hi : i < m
  · rw [uarr_get _ _ _ hi, made_get _ _ _ hi]; rfl
  · simp [madeCells, uarr, hi]
theorem u32_info : (Tryd.prog.info? 31).map (fun i => (i.zero, i.size, i.bytes)) = some (some (.int .u32 0), 1, 4) := by kernel_rfl
set_option maxHeartbeats 1000000 in
theorem words_any (s : ByteArray) (hs : s.size ≤ 1000000) (w : World) :
    Calls Tryd.prog 16 #[.string s] w fun e w' => e = .returned (.slice (some ⟨w.heap.size, 0, none⟩) (s.size / 4) (s.size / 4)) ∧ Blk w' w.heap.size 31 (uarr (s.size / 4) (wordL s.data.toList)) ∧ Below w.heap.size w w' := by
  obtain ⟨m, hm⟩ : ∃ m, s.size / 4 = m := ⟨_, rfl⟩
  have hm4 : 4 * m ≤ s.size := by omega
  have hm4' : s.size < 4 * m + 4 := by omega
  have hq : (s.size : Int) / 4 = m := by omega
  rw [hm]
  have HM := Lib.hid hm
  clear hm
  have hmk : ∀ W, (Instr.makeSlice 28 (.int .i64 (m : Int)) (.int .i64 (m : Int))).run Tryd.prog W = .ok (.slice (some ⟨W.heap.size, 0, none⟩) m m) (W.alloc (.cells (uarr m (fun _ => 0)) 31)) := fun W => by
    rw [← made_u32]; exact run_make_one _ _ _ 4 Tryd.underlying28 u32_info rfl (by omega) .i64 .i64 m (by omega) W
  go_enter Tryd.func16, Tryd.ntmps16
  go_wp2_with fail
  clear hmk hq
  go_loopw [11] (fun i wr => ∃ k : Nat, k ≤ m ∧ i = .int .i64 k ∧ Hid (Blk wr w.heap.size 31 (uarr m (fun j => if j < k then wordL s.data.toList j else 0))) ∧ Below w.heap.size w wr) (fun i _ => m - (intOf i).toNat)
  case atStart =>
    refine ⟨0, by omega, rfl, Lib.hid ?_, (Below.refl _ _).alloc (Nat.le_refl _) _⟩
    simpa using Blk.new w 31 (uarr m (fun _ => 0))
  case round =>
    obtain ⟨k, hk, rfl, HB, hb⟩ := hrel
    by_cases hlt : k < m
    · have i2 : IntKind.i64.wrap ((k : Int) + 1) = (k : Int) + 1 := IntWalk.i64_in _ (by omega)
      go_wp2_with fail
      refine (word_any s k (by omega) hs _).mono ?_
      rintro e w2 ⟨rfl, nq, rfl⟩
      go_wp2_with (refine wpList_store_cell rfl 31 (.tmp 19) (.tmp 18) rfl rfl w.heap.size k (.int .u32 (wv (wordL s.data.toList k))) rfl rfl rfl 31 _ (HB.out.drewN nq) (by rw [uarr_size]; exact hlt) (by kernel_rfl) ?_; intro w3 o3 b3)
      go_roundw
      case rel =>
        refine ⟨k + 1, by omega, by go_num, Lib.hid ?_, (below_drewN hb nq).trans (o3.below (by simp))⟩
        rw [uarr_set] at b3
        rw [uarr_congr m _ _ (fun i hi => ?_)]
        · exact b3
        · unfold upd
          by_cases h1 : i = k
          · subst h1; simp
          · rw [if_neg h1]
            show (if i < k + 1 then wordL s.data.toList i else 0) = (if i < k then wordL s.data.toList i else 0)
            by_cases h2 : i < k
            · rw [if_pos h2, if_pos (by omega)]
            · rw [if_neg h2, if_neg (by omega)]
      case measure => simp [intOf]; omega
    · have hkm : k = m := by omega
      subst hkm
      go_wp2
      go_ret
      refine ⟨rfl, ?_, hb⟩
      rw [uarr_congr k (wordL s.data.toList) (fun j => if j < k then wordL s.data.toList j else 0) (fun i hi => by rw [if_pos hi])]
      exact HB.out
end Go.Proofs.YtdigdihokgiijaaDoor
