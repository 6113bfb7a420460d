/- The document's Id and Head of a block. Written by genBI.py. -/
import Derived.Test.YthpnmmilioonhaaDoorBkR
import Derived.Test.YthpnmmilioonhaaDoorTxId
namespace Go.Proofs.YthpnmmilioonhaaDoor
open Go.RowKit
/-- a block's name, or the error -/
def idBF (B : BlockV) : K32 × Int := match encBF B with
  | (s, e) => if e = 0 then (⟨dblL s, dblL_len s⟩, 0) else (zeroKey, e)
theorem idBF_cases (B : BlockV) : (OkBlk B ∧ encBF B = (blkB B, 0) ∧ idBF B = (⟨dblL (blkB B), dblL_len _⟩, 0)) ∨ ∃ er, er ≠ 0 ∧ encBF B = ([], er) ∧ idBF B = (zeroKey, er) := by
  unfold idBF
  rcases encBF_cases B with ⟨h, h1⟩ | ⟨e, h1, h2⟩
  · exact .inl ⟨h, h1, by rw [h1]; rfl⟩
  · have h0 : e ≠ 0 := by omega
    exact .inr ⟨e, h0, h1, by rw [h1]; exact if_neg h0⟩
theorem blkB_le {B : BlockV} (h : OkBlk B) : (blkB B).length ≤ 200000 := by
  have hlen := blkB_len B h
  have := sum_le (B.txs.map fun T => (txB T).length) 6000 (fun x hx => by
    obtain ⟨T, hT, rfl⟩ := List.mem_map.1 hx
    exact txB_six (h.2.2 T hT))
  rw [List.length_map] at this
  have := h.2.1
  omega
set_option maxRecDepth 20000 in
theorem refIdB_any (a : BkA) (w : World) (h : a.In w w.heap.size) :
    Calls Tryd.prog 10 #[.agg a.cells.toArray] w fun e w' => e = .returned (idV (idBF a.B)) ∧ Below w.heap.size w w' := by
  have HB := Lib.hid (fun c => (show RowC ((w.alloc (.cells a.cells.toArray 27)).alloc (.cells c 23)) w.heap.size 0 a.cells from RowC.of_blk ((Blk.new _ _ _).alloc _)))
  have HI := Lib.hid (fun c => (show a.In ((w.alloc (.cells a.cells.toArray 27)).alloc (.cells c 23)) _ from BkA.In.on h (((Below.refl _ _).alloc (Nat.le_refl _) _).alloc (by simp) _) (Nat.le_refl _)))
  clear h
  rcases idBF_cases a.B with ⟨hok, he, hi⟩ | ⟨er, h0, he, hi⟩
  · rw [hi]
    have HD := Lib.hid (fun w => refDouble_any ⟨(blkB a.B).toArray⟩ (by rw [mkb_size]; have := blkB_le hok; omega) w)
    have HE := Lib.hid he
    clear hok he hi
    go_enter Tryd.func10, Tryd.ntmps10
    go_wp2_with ((with_reducible refine at_load 1 ?_); refine tyBk.wpList_load rfl (.tmp 1) rfl w.heap.size 0 rfl a (HB.out _) ?_)
    refine (refEncB_any a _ (HI.out _)).mono ?_
    rintro e w1 ⟨rfl, b1⟩
    have B1 := Lib.hid ((((Below.refl w.heap.size w).alloc (Nat.le_refl _) _).alloc (by simp) _).trans (b1.mono (by simp; omega)))
    have K2 := Lib.hid (below_blk b1 (blk_new (g := w.heap.size + 1) (w := w.alloc (.cells a.cells.toArray 27)) 23 _ (by simp)) (by simp))
    rw [HE.out]
    clear b1 HB HI
    unfold encV
    go_wp2_with fail
    refine (HD.out _).mono ?_
    rintro e w2 ⟨rfl, b2⟩
    have K3 := Lib.hid (below_blk b2 K2.out K2.out.lt)
    have B2 := Lib.hid (B1.out.trans (b2.mono B1.out.size))
    clear b2 HD K2 B1
    go_wp2_with ((with_reducible refine at_store 2 16 ?_); refine wpList_store_arr rfl 23 (.tmp 2) (.tmp 16) rfl rfl (w.heap.size + 1) (bytesA (dblL (blkB a.B))) rfl rfl 23 _ K3.out (sz32 _ (dblL_len _)) (by rw [bytesA_size, dblL_len]; rfl) (bytesA_one _) ?_; intro w3 o3 b3)
    refine bodyPost_ret (results_cell_tmp1 rfl _ _ (w.heap.size + 1) 23 _ (0, 0) _ rfl b3 Tryd.underlying23 rfl (sz32 _ (dblL_len _))) rfl ⟨?_, B2.out.trans (o3.below (by simp))⟩
    unfold idV
    rw [encK_arr]
    rfl
  · rw [hi]
    have hd : (er == 0) = false := beq_eq_false_iff_ne.mpr h0
    have HE := Lib.hid he
    clear he hi h0
    go_enter Tryd.func10, Tryd.ntmps10
    go_wp2_with ((with_reducible refine at_load 1 ?_); refine tyBk.wpList_load rfl (.tmp 1) rfl w.heap.size 0 rfl a (HB.out _) ?_)
    refine (refEncB_any a _ (HI.out _)).mono ?_
    rintro e w1 ⟨rfl, b1⟩
    have B1 := Lib.hid ((((Below.refl w.heap.size w).alloc (Nat.le_refl _) _).alloc (by simp) _).trans (b1.mono (by simp; omega)))
    have K2 := Lib.hid (below_blk b1 (blk_new (g := w.heap.size + 1) (w := w.alloc (.cells a.cells.toArray 27)) 23 _ (by simp)) (by simp))
    rw [HE.out]
    clear b1 HB HI
    unfold encV
    go_wp2_with ((with_reducible refine at_store 2 13 ?_); refine wpList_store_arr rfl 23 (.tmp 2) (.tmp 13) rfl rfl (w.heap.size + 1) (encK zeroKey).toArray rfl (congrArg Value.agg lit32k) 23 _ K2.out (tyKy.arrS _) (by rw [tyKy.arr]; rfl) (tyKy.arr1 _) ?_; intro w3 o3 b3)
    exact bodyPost_ret (results_cell_tmp1 rfl _ _ (w.heap.size + 1) 23 _ (0, 0) _ rfl b3 Tryd.underlying23 rfl (tyKy.arrS _)) rfl ⟨rfl, B1.out.trans (o3.below (by simp))⟩
set_option maxRecDepth 20000 in
theorem refHead_any (k : K32) (n : Nat) (hn : n ≤ 1000) (w : World) :
    Calls Tryd.prog 18 #[.agg (encK k).toArray, .int .i64 n] w fun e w' => e = .returned (.string ⟨(headB k zeroKey (toU32 0) n).toArray⟩) ∧ Below w.heap.size w w' := by
  have KA := Lib.hid (Blk.new w 23 (encK k).toArray)
  have hcl : IntKind.u64.wrap (n : Int) = (n : Int) := by rw [IntKind.wrap_u64]; omega
  have ha1 : ∀ V, (Op.stringOp .add ⟨(k.1).toArray⟩ ⟨(zeroKey.1).toArray⟩).run Tryd.prog V = .ok (.string ⟨(k.1 ++ zeroKey.1).toArray⟩) V := fun V => run_string_add_lists V _ _ (by rw [k.2]; omega) (by rw [zeroKey.2]; omega)
  have ha2 : ∀ V, (Op.stringOp .add ⟨(k.1 ++ zeroKey.1).toArray⟩ ⟨(putL 0 4).toArray⟩).run Tryd.prog V = .ok (.string ⟨(k.1 ++ (zeroKey.1 ++ putL 0 4)).toArray⟩) V := fun V => (run_string_add_lists V _ _ (by rw [List.length_append, k.2, zeroKey.2]; omega) (by rw [putL_len]; omega)).trans (by rw [List.append_assoc])
  have ha3 : ∀ V, (Op.stringOp .add ⟨(k.1 ++ (zeroKey.1 ++ putL 0 4)).toArray⟩ ⟨(cmpL n).toArray⟩).run Tryd.prog V = .ok (.string ⟨(headB k zeroKey (toU32 0) n).toArray⟩) V := fun V => (run_string_add_lists V _ _ (by rw [List.length_append, List.length_append, k.2, zeroKey.2, putL_len]; omega) (by have := cmpL_le n; omega)).trans (by unfold headB; simp only [List.append_assoc]; rfl)
  obtain ⟨R, hR⟩ : ∃ R, headB k zeroKey (toU32 0) n = R := ⟨_, rfl⟩
  rw [hR] at ha3 ⊢
  clear hR
  go_enter Tryd.func18, Tryd.ntmps18
  go_wp2_with ((with_reducible refine at_load 2 ?_); refine tyKy.wpList_load rfl (.tmp 2) rfl w.heap.size 0 rfl k (by simpa [encK] using RowC.of_blk KA.out) ?_)
  refine (rBytes_r k _).mono ?_
  rintro e w1 ⟨rfl, b1⟩
  have B1 := Lib.hid (((Below.refl w.heap.size w).alloc (Nat.le_refl _) _).trans (b1.mono (by simp)))
  clear b1
  go_wp2_with ((with_reducible refine at_build 7 ?_); refine wpList_built rfl 23 #[] rfl (encK zeroKey).toArray (by kernel_rfl) ?_)
  refine (rBytes_r zeroKey _).mono ?_
  rintro e w2 ⟨rfl, b2⟩
  have B2 := Lib.hid (B1.out.trans (b2.mono B1.out.size))
  clear b2
  go_wp2_with fail
  refine (rPut4_r 0 _).mono ?_
  rintro e w3 ⟨rfl, b3⟩
  have B3 := Lib.hid (B2.out.trans (b3.mono B2.out.size))
  clear b3
  go_wp2_with fail
  refine (refCompact_any n _).mono ?_
  rintro e w4 ⟨rfl, b4⟩
  have B4 := Lib.hid (B3.out.trans (b4.mono B3.out.size))
  clear b4
  go_wp2
  go_ret
  exact ⟨rfl, B4.out⟩
end Go.Proofs.YthpnmmilioonhaaDoor
