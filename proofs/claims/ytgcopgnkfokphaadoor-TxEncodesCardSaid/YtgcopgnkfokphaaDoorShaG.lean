/- sha.Double and Pair; the statements' own 'shown'. -/
import Derived.Test.YtgcopgnkfokphaaDoorShaF
import Derived.Laws.IdiomStrings
import Derived.KernelRfl
namespace Go.Proofs.YtgcopgnkfokphaaDoor
open Go.RowKit
theorem conv_key (W : World) (b : Nat) (t : TypeId) (l : List UInt8) (h : Blk W b t (bytesA l)) (hl : l.length = 32) :
    (convert 44 9 (.slice (some ⟨b, 0, none⟩) 32 32)).run Tryd.prog W = .ok (.string ⟨l.toArray⟩) W := by
  have := run_convert_bytes_back (P := Tryd.prog) W 44 9 5 ⟨b, 0, none⟩ 32 l Tryd.underlying44 Tryd.underlying5 Tryd.underlying9 (fun j hj => by
    rw [show (⟨b, 0, none⟩ : Addr).add j = ⟨b, j, none⟩ by unfold Addr.add; split <;> simp_all]
    exact (h.cell j).trans (bytesA_get l j hj))
  rw [hl] at this
  exact this
def dblL (l : List UInt8) : List UInt8 := sumL (sumL l)
theorem sz_arr (l : List UInt8) (h : l.length = 32) : (Tryd.prog.info? 26).map (·.size) = some (bytesA l).size := by rw [bytesA_size, h]; kernel_rfl
set_option maxRecDepth 20000 in
set_option maxHeartbeats 1000000 in
theorem double_any (s : ByteArray) (hs : s.size ≤ 1000000) (w : World) (hR : Roots w) :
    Calls Tryd.prog 32 #[.string s] w fun e w' => e = .returned (.agg (bytesA (dblL s.data.toList))) ∧ Below w.heap.size w w' := by
  have HR := Lib.hid hR
  have l0 := hR.lt0
  have l1 := hR.lt1
  clear hR
  go_enter Tryd.func32, Tryd.ntmps32
  go_wp2_with fail
  refine (sum_any s hs _ (HR.out.below ((Below.refl w.heap.size _).alloc (Nat.le_refl _) _) l0 l1)).mono ?_
  rintro e w1 ⟨rfl, b1⟩
  have B1 : Below w.heap.size w w1 := ((Below.refl _ _).alloc (Nat.le_refl _) _).trans (b1.mono (by simp))
  have K0 := Lib.hid (below_blk b1 (Blk.new w 26 (bytesA (List.replicate 32 0))) (by simp))
  have hw1 : w.heap.size < w1.heap.size := by have := b1.size; simp at this; omega
  clear b1
  go_wp2_with ((with_reducible refine at_store 3 5 ?_); refine wpList_store_arr rfl 26 (.tmp 3) (.tmp 5) rfl rfl w1.heap.size (bytesA (sumL s.data.toList)) rfl rfl 26 _ (Blk.new w1 _ (bytesA (List.replicate 32 0))) (sz_arr _ (sumL_len _)) (by rw [bytesA_size, bytesA_size, sumL_len]; simp) (bytesA_one _) ?_; intro w2 o2 b2)
  rw [conv_key _ _ _ _ b2 (sumL_len _)]
  have B2 : Below w.heap.size w w2 := (B1.alloc B1.size _).trans (o2.below (by simp; exact B1.size))
  have K2 := Lib.hid (o2.blk (K0.out.alloc _) (by simp; omega))
  clear B1 K0 o2 b2
  go_wp2_with fail
  refine (sum_any _ (by simp [ByteArray.size, sumL_len]) _ (HR.out.below B2 l0 l1)).mono ?_
  rintro e w3 ⟨rfl, b3⟩
  have B3 : Below w.heap.size w w3 := B2.trans (b3.mono B2.size)
  have K3 := Lib.hid (below_blk b3 K2.out K2.out.lt)
  clear B2 K2 b3
  go_wp2_with ((with_reducible refine at_store 2 8 ?_); refine wpList_store_arr rfl 26 (.tmp 2) (.tmp 8) rfl rfl w.heap.size (bytesA (dblL s.data.toList)) rfl rfl 26 _ K3.out (sz_arr _ (sumL_len _)) (by rw [bytesA_size, bytesA_size]; simp [dblL, sumL_len]) (bytesA_one _) ?_; intro w5 o5 b5)
  exact bodyPost_ret (results_cell_row rfl _ _ w.heap.size 26 _ (0, 0) _ rfl b5 Tryd.underlying26 rfl (sz_arr _ (sumL_len _))) rfl ⟨rfl, B3.trans (o5.below (by simp))⟩
def pairL (a b : List UInt8) : List UInt8 := dblL (a ++ b)
theorem toArray_list (l : List UInt8) : (⟨l.toArray⟩ : ByteArray).data.toList = l := rfl
theorem string_add (a b : List UInt8) : (⟨a.toArray⟩ : ByteArray) ++ (⟨b.toArray⟩ : ByteArray) = ⟨(a ++ b).toArray⟩ := by
  apply ByteArray.ext
  rw [ByteArray.data_append]
  simp
set_option maxRecDepth 100000 in
theorem sumL_empty : sumL [] = [0xe3, 0xb0, 0xc4, 0x42, 0x98, 0xfc, 0x1c, 0x14, 0x9a, 0xfb, 0xf4, 0xc8, 0x99, 0x6f, 0xb9, 0x24, 0x27, 0xae, 0x41, 0xe4, 0x64, 0x9b, 0x93, 0x4c, 0xa4, 0x95, 0x99, 0x1b, 0x78, 0x52, 0xb8, 0x55] := by decide +kernel
end Go.Proofs.YtgcopgnkfokphaaDoor
