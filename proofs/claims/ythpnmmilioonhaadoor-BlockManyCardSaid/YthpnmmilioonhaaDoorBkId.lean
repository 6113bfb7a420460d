/- block.Id. -/
import Derived.Test.YthpnmmilioonhaaDoorLBkEnc
import Derived.Test.YthpnmmilioonhaaDoorBkEn
import Derived.Test.YthpnmmilioonhaaDoorBkI
import Derived.Test.YthpnmmilioonhaaDoorShaAll
namespace Go.Proofs.YthpnmmilioonhaaDoor
open Go.RowKit
set_option maxRecDepth 20000 in
theorem bId_any (a : BkA) (w : World) (h : a.In w w.heap.size) (hM : MidB a.B) (hR : Roots w) :
    Calls Tryd.prog 9 #[.agg a.cells.toArray] w fun e w' => e = .returned (idV (idBF a.B)) ∧ Below w.heap.size w w' := by
  have HB := Lib.hid (fun c => (show RowC ((w.alloc (.cells a.cells.toArray 27)).alloc (.cells c 23)) w.heap.size 0 a.cells from RowC.of_blk ((Blk.new _ _ _).alloc _)))
  have HI := Lib.hid (fun c => (show a.In ((w.alloc (.cells a.cells.toArray 27)).alloc (.cells c 23)) _ from BkA.In.on h (((Below.refl _ _).alloc (Nat.le_refl _) _).alloc (by simp) _) (Nat.le_refl _)))
  have l0 := hR.lt0
  have l1 := hR.lt1
  have HR := Lib.hid hR
  have HM := Lib.hid hM
  clear h hR hM
  rcases idBF_cases a.B with ⟨hok, he, hi⟩ | ⟨er, h0, he, hi⟩
  · rw [hi]
    have hD : ∀ w, Roots w → Calls Tryd.prog 33 #[.string ⟨(blkB a.B).toArray⟩] w fun e w' => e = .returned (.agg (bytesA (dblL (blkB a.B)))) ∧ Below w.heap.size w w' := (fun w h => double_any ⟨(blkB a.B).toArray⟩ (by rw [mkb_size]; have := blkB_le hok; omega) w h)
    have HD := Lib.hid hD
    have HE := Lib.hid he
    clear hD hok he hi
    go_enter Tryd.func9, Tryd.ntmps9
    go_wp2_with ((with_reducible refine at_load 1 ?_); refine tyBk.wpList_load rfl (.tmp 1) rfl w.heap.size 0 rfl a (HB.out _) ?_)
    refine (encB_ok a _ (HI.out _) HM.out).mono ?_
    rintro e w1 ⟨rfl, b1⟩
    have B1 := Lib.hid ((((Below.refl w.heap.size w).alloc (Nat.le_refl _) _).alloc (by simp) _).trans (b1.mono (by simp; omega)))
    have K2 := Lib.hid (below_blk b1 (blk_new (g := w.heap.size + 1) (w := w.alloc (.cells a.cells.toArray 27)) 23 _ (by simp)) (by simp))
    rw [HE.out]
    clear b1 HB HI
    unfold encV
    go_wp2_with fail
    refine (HD.out _ (HR.out.below B1.out l0 l1)).mono ?_
    rintro e w2 ⟨rfl, b2⟩
    have K3 := Lib.hid (below_blk b2 K2.out K2.out.lt)
    have B2 := Lib.hid (B1.out.trans (b2.mono B1.out.size))
    clear b2 HD K2 B1
    go_wp2_with ((with_reducible refine at_store 2 16 ?_); refine wpList_store_arr rfl 23 (.tmp 2) (.tmp 16) rfl rfl (w.heap.size + 1) (bytesA (dblL (blkB a.B))) rfl rfl 23 _ K3.out (sz32 _ (dblL_len _)) (by rw [bytesA_size, dblL_len]; rfl) (bytesA_one _) ?_; intro w3 o3 b3)
    refine bodyPost_ret (results_cell_tmp1 rfl _ _ (w.heap.size + 1) 23 _ (0, 0) _ rfl b3 Tryd.underlying23 rfl (sz32 _ (dblL_len _))) rfl ⟨?_, B2.out.trans (o3.below (by simp))⟩
    unfold idV
    rw [encK_arr]
    rfl
  · rw [hi]
    have hd : (er == 0) = false := beq_eq_false_iff_ne.mpr h0
    have HE := Lib.hid he
    clear he hi h0
    go_enter Tryd.func9, Tryd.ntmps9
    go_wp2_with ((with_reducible refine at_load 1 ?_); refine tyBk.wpList_load rfl (.tmp 1) rfl w.heap.size 0 rfl a (HB.out _) ?_)
    refine (encB_ok a _ (HI.out _) HM.out).mono ?_
    rintro e w1 ⟨rfl, b1⟩
    have B1 := Lib.hid ((((Below.refl w.heap.size w).alloc (Nat.le_refl _) _).alloc (by simp) _).trans (b1.mono (by simp; omega)))
    have K2 := Lib.hid (below_blk b1 (blk_new (g := w.heap.size + 1) (w := w.alloc (.cells a.cells.toArray 27)) 23 _ (by simp)) (by simp))
    rw [HE.out]
    clear b1 HB HI
    unfold encV
    go_wp2_with ((with_reducible refine at_store 2 13 ?_); refine wpList_store_arr rfl 23 (.tmp 2) (.tmp 13) rfl rfl (w.heap.size + 1) (encK zeroKey).toArray rfl (congrArg Value.agg lit32k) 23 _ K2.out (tyKy.arrS _) (by rw [tyKy.arr]; rfl) (tyKy.arr1 _) ?_; intro w3 o3 b3)
    exact bodyPost_ret (results_cell_tmp1 rfl _ _ (w.heap.size + 1) 23 _ (0, 0) _ rfl b3 Tryd.underlying23 rfl (tyKy.arrS _)) rfl ⟨rfl, B1.out.trans (o3.below (by simp))⟩
theorem idB_ok : IdBOk := fun a w h hM hR => bId_any a w h hM hR
end Go.Proofs.YthpnmmilioonhaaDoor
