/- sha.Double and Pair; the statements' own 'shown'. -/
import Derived.Test.YtdigdihokgiijaaDoorShaF
import Derived.Laws.IdiomStrings
import Derived.KernelRfl
namespace Go.Proofs.YtdigdihokgiijaaDoor
open Go.RowKit
theorem conv_key (W : World) (b : Nat) (t : TypeId) (l : List UInt8) (h : Blk W b t (bytesA l)) (hl : l.length = 32) :
    (convert 36 9 (.slice (some ⟨b, 0, none⟩) 32 32)).run Tryd.prog W = .ok (.string ⟨l.toArray⟩) W := by
  have := run_convert_bytes_back (P := Tryd.prog) W 36 9 5 ⟨b, 0, none⟩ 32 l Tryd.underlying36 Tryd.underlying5 Tryd.underlying9 (fun j hj => by
    rw [show (⟨b, 0, none⟩ : Addr).add j = ⟨b, j, none⟩ by unfold Addr.add; split <;> simp_all]
    exact (h.cell j).trans (bytesA_get l j hj))
  rw [hl] at this
  exact this
def dblL (l : List UInt8) : List UInt8 := sumL (sumL l)
theorem sz_arr (l : List UInt8) (h : l.length = 32) : (Tryd.prog.info? 23).map (·.size) = some (bytesA l).size := by rw [bytesA_size, h]; kernel_rfl
set_option maxHeartbeats 1000000 in
theorem double_any (s : ByteArray) (hs : s.size ≤ 1000000) (w : World) (hR : Roots w) :
    Calls Tryd.prog 12 #[.string s] w fun e w' => e = .returned (.agg (bytesA (dblL s.data.toList))) ∧ Below w.heap.size w w' := by
  have HR := Lib.hid hR
  have l0 := hR.lt0
  have l1 := hR.lt1
  clear hR
  go_enter Tryd.func12, Tryd.ntmps12
  go_wp2_with fail
  refine (sum_any s hs _ (HR.out.below ((Below.refl w.heap.size _).alloc (Nat.le_refl _) _) l0 l1)).mono ?_
  rintro e w1 ⟨rfl, b1⟩
  have B1 : Below w.heap.size w w1 := ((Below.refl _ _).alloc (Nat.le_refl _) _).trans (b1.mono (by simp))
  have K0 := Lib.hid (below_blk b1 (Blk.new w 23 (bytesA (List.replicate 32 0))) (by simp))
  have hw1 : w.heap.size < w1.heap.size := by have := b1.size; simp at this; omega
  clear b1
  go_wp2_with ((with_reducible refine at_store 3 5 ?_); refine wpList_store_arr rfl 23 (.tmp 3) (.tmp 5) rfl rfl w1.heap.size (bytesA (sumL s.data.toList)) rfl rfl 23 _ (Blk.new w1 _ (bytesA (List.replicate 32 0))) (sz_arr _ (sumL_len _)) (by rw [bytesA_size, bytesA_size, sumL_len]; simp) (bytesA_one _) ?_; intro w2 o2 b2)
  rw [conv_key _ _ _ _ b2 (sumL_len _)]
  have B2 : Below w.heap.size w w2 := (B1.alloc B1.size _).trans (o2.below (by simp; exact B1.size))
  have K2 := Lib.hid (o2.blk (K0.out.alloc _) (by simp; omega))
  clear B1 K0 o2 b2
  go_wp2_with fail
  refine (sum_any _ (by simp [ByteArray.size, sumL_len]) _ (HR.out.below B2 l0 l1)).mono ?_
  rintro e w3 ⟨rfl, b3⟩
  have B3 : Below w.heap.size w w3 := B2.trans (b3.mono B2.size)
  have K3 := Lib.hid (below_blk b3 K2.out K2.out.lt)
  clear B2 K2 b3
  go_wp2_with ((with_reducible refine at_store 2 8 ?_); refine wpList_store_arr rfl 23 (.tmp 2) (.tmp 8) rfl rfl w.heap.size (bytesA (dblL s.data.toList)) rfl rfl 23 _ K3.out (sz_arr _ (sumL_len _)) (by rw [bytesA_size, bytesA_size]; simp [dblL, sumL_len]) (bytesA_one _) ?_; intro w5 o5 b5)
  exact bodyPost_ret (results_cell_row rfl _ _ w.heap.size 23 _ (0, 0) _ rfl b5 Tryd.underlying23 rfl (sz_arr _ (sumL_len _))) rfl ⟨rfl, B3.trans (o5.below (by simp))⟩
def pairL (a b : List UInt8) : List UInt8 := dblL (a ++ b)
theorem toArray_list (l : List UInt8) : (⟨l.toArray⟩ : ByteArray).data.toList = l := rfl
theorem string_add (a b : List UInt8) : (⟨a.toArray⟩ : ByteArray) ++ (⟨b.toArray⟩ : ByteArray) = ⟨(a ++ b).toArray⟩ := by
  apply ByteArray.ext
  rw [ByteArray.data_append]
  simp
set_option maxHeartbeats 1000000 in
theorem pair_any (a b : List UInt8) (ha : a.length = 32) (hb : b.length = 32) (w : World) (hR : Roots w) :
    Calls Tryd.prog 14 #[.agg (bytesA a), .agg (bytesA b)] w fun e w' => e = .returned (.agg (bytesA (pairL a b))) ∧ Below w.heap.size w w' := by
  have HR := Lib.hid hR
  have l0 := hR.lt0
  have l1 := hR.lt1
  have Ha := Lib.hid ha
  have Hb := Lib.hid hb
  clear hR ha hb
  go_enter Tryd.func14, Tryd.ntmps14
  go_wp2_with fail
  obtain ⟨W, hW⟩ : ∃ W, ((w.alloc (Obj.cells (bytesA a) 23)).alloc (Obj.cells (bytesA b) 23)).alloc (Obj.cells (bytesA (List.replicate 32 0)) 23) = W := ⟨_, rfl⟩
  have e0 : bytesA (List.replicate 32 0) = (List.replicate 32 (Value.int .u8 0)).toArray := rfl
  have B0 : Below w.heap.size w W := by rw [← hW]; exact (((Below.refl _ _).alloc (Nat.le_refl _) _).alloc (by simp) _).alloc (by simp; omega) _
  have K0 : Blk W w.heap.size 23 (bytesA a) := by rw [← hW]; exact ((Blk.new _ _ _).alloc _).alloc _
  have K1 : Blk W (w.heap.size + 1) 23 (bytesA b) := by rw [← hW]; exact (blk_new _ _ (by simp)).alloc _
  have K2 : Blk W (w.heap.size + 1 + 1) 23 (bytesA (List.replicate 32 0)) := by rw [← hW]; exact blk_new _ _ (by simp)
  have hc1 := conv_key W.drew _ _ _ K0 Ha.out
  have hc2 := conv_key W.drew _ _ _ K1 Hb.out
  have J2 := Lib.hid K2
  clear K0 K1 K2 e0
  change Code.wp _ _ _ _ (((w.alloc (Obj.cells (bytesA a) 23)).alloc (Obj.cells (bytesA b) 23)).alloc (Obj.cells (bytesA (List.replicate 32 0)) 23))
  rw [hW]
  clear hW
  have hadd : ∀ V, (Op.stringOp .add ⟨a.toArray⟩ ⟨b.toArray⟩).run Tryd.prog V = .ok (.string ⟨(a ++ b).toArray⟩) V := fun V => run_string_add_lists V a b (by rw [Ha.out]; decide) (by rw [Hb.out]; decide)
  refine wp_region_still_tail 5 (by kernel_rfl) (by kernel_rfl) ?_
  simp only [List.take_succ_cons, List.take_zero, List.drop_succ_cons, List.drop_zero]
  repeat still_step
  refine wpStill_nil ?_
  change wpList _ _ _ _ _ W.drew
  clear hc1 hc2 hadd
  go_wp2_with fail
  refine (double_any _ (by simp [ByteArray.size, Ha.out, Hb.out]) _ (HR.out.below B0.drew l0 l1)).mono ?_
  rintro e w3 ⟨rfl, b3⟩
  have B3 : Below w.heap.size w w3 := B0.drew.trans (b3.mono B0.size)
  have K3 := Lib.hid (below_blk b3 J2.out.drew J2.out.lt)
  clear B0 J2 b3
  go_wp2_with ((with_reducible refine at_store 4 10 ?_); refine wpList_store_arr rfl 23 (.tmp 4) (.tmp 10) rfl rfl (w.heap.size + 1 + 1) (bytesA (pairL a b)) rfl rfl 23 _ K3.out (sz_arr _ (sumL_len _)) (by rw [bytesA_size, bytesA_size]; simp [pairL, dblL, sumL_len]) (bytesA_one _) ?_; intro w5 o5 b5)
  exact bodyPost_ret (results_cell_row rfl _ _ (w.heap.size + 1 + 1) 23 _ (0, 0) _ rfl b5 Tryd.underlying23 rfl (sz_arr _ (sumL_len _))) rfl ⟨rfl, B3.trans (o5.below (by simp; omega))⟩
set_option maxRecDepth 100000 in
theorem sumL_empty : sumL [] = [0xe3, 0xb0, 0xc4, 0x42, 0x98, 0xfc, 0x1c, 0x14, 0x9a, 0xfb, 0xf4, 0xc8, 0x99, 0x6f, 0xb9, 0x24, 0x27, 0xae, 0x41, 0xe4, 0x64, 0x9b, 0x93, 0x4c, 0xa4, 0x95, 0x99, 0x1b, 0x78, 0x52, 0xb8, 0x55] := by decide +kernel
set_option maxHeartbeats 1000000 in
theorem shown_any (w : World) (hR : Roots w) :
    Calls Tryd.prog 9 #[] w fun e w' => e = .returned (.bool true) ∧ Below w.heap.size w w' := by
  have HR := Lib.hid hR
  clear hR
  go_enter Tryd.func9, Tryd.ntmps9
  go_wp2_with fail
  refine (sum_any ⟨#[]⟩ (by decide) _ HR.out).mono ?_
  rintro e w1 ⟨rfl, b1⟩
  rw [show (⟨#[]⟩ : ByteArray).data.toList = [] from rfl]
  go_wp2_with ((with_reducible refine at_store 1 2 ?_); refine wpList_store_arr rfl 23 (.tmp 1) (.tmp 2) rfl rfl w1.heap.size (bytesA (sumL [])) rfl rfl 23 _ (Blk.new w1 _ (bytesA (List.replicate 32 0))) (sz_arr _ (sumL_len _)) (by rw [bytesA_size, bytesA_size, sumL_len]; simp) (bytesA_one _) ?_; intro w2 o2 b2; have B2 : Below w.heap.size w w2 := (b1.alloc b1.size _).trans (o2.below (by simp; exact b1.size)); rw [sumL_empty] at b2; have c0 : w2.cell? ⟨w1.heap.size, 0, none⟩ = some (.int .u8 227) := b2.cell 0; have c1 : w2.cell? ⟨w1.heap.size, 1, none⟩ = some (.int .u8 176) := b2.cell 1; have c2 : w2.cell? ⟨w1.heap.size, 31, none⟩ = some (.int .u8 85) := b2.cell 31; clear b2 o2 b1)
  go_ret
  exact ⟨rfl, B2⟩
end Go.Proofs.YtdigdihokgiijaaDoor
