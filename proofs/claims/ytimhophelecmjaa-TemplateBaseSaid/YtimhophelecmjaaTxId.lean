/- TxId: TxI, TxRi, in one text. -/
import Derived.Test.YtimhophelecmjaaTxAllB
import Derived.Test.YtimhophelecmjaaShaAll
import Derived.Test.YtimhophelecmjaaRefAll
import Derived.Test.YtimhophelecmjaaTxAllC
/- tx.Id, and the document's. Written by genId.py. -/
namespace Go.Proofs.Ytimhophelecmjaa
open Go.RowKit
theorem dblL_len (l : List UInt8) : (dblL l).length = 32 := by simp [dblL, sumL_len]
/-- a transaction's name, or the error -/
def idF (T : TxV) : K32 × Int := match encF T with
  | (s, e) => if e = 0 then (⟨dblL s, dblL_len s⟩, 0) else (zeroKey, e)
def idV (x : K32 × Int) : Value := .tuple #[.agg (encK x.1).toArray, .int .i64 x.2]
theorem idF_cases (T : TxV) : (OkTx T ∧ encF T = (txB T, 0) ∧ idF T = (⟨dblL (txB T), dblL_len _⟩, 0)) ∨ ∃ er, er ≠ 0 ∧ encF T = ([], er) ∧ idF T = (zeroKey, er) := by
  unfold idF
  rcases encF_cases T with ⟨h, h1⟩ | h1 | h1
  · exact .inl ⟨h, h1, by rw [h1]; rfl⟩
  · exact .inr ⟨51, by decide, h1, by rw [h1]; rfl⟩
  · exact .inr ⟨1, by decide, h1, by rw [h1]; rfl⟩
theorem txB_le {T : TxV} (h : OkTx T) : (txB T).length ≤ 6000 := by
  have hlen := txB_len T h
  obtain ⟨o1, o2, o3, o4, _⟩ := h
  split at hlen <;> omega
end Go.Proofs.Ytimhophelecmjaa
/- The document's Id of a transaction. Written by genRId.py. -/
namespace Go.Proofs.Ytimhophelecmjaa
open Go.RowKit
set_option maxRecDepth 20000 in
theorem refId_any (a : TxA) (w : World) (h : a.In w w.heap.size) :
    Calls Try.prog 5 #[.agg a.cells.toArray] w fun e w' => e = .returned (idV (idF a.T)) ∧ Below w.heap.size w w' := by
  have HB := Lib.hid (fun c => (show RowC ((w.alloc (.cells a.cells.toArray 29)).alloc (.cells c 24)) w.heap.size 0 a.cells from RowC.of_blk ((Blk.new _ _ _).alloc _)))
  have HI := Lib.hid (fun c => (show a.In ((w.alloc (.cells a.cells.toArray 29)).alloc (.cells c 24)) _ from TxA.In.on h (((Below.refl _ _).alloc (Nat.le_refl _) _).alloc (by simp) _) (Nat.le_refl _)))
  clear h
  rcases idF_cases a.T with ⟨hok, he, hi⟩ | ⟨er, h0, he, hi⟩
  · rw [hi]
    have hD : ∀ w, Calls Try.prog 12 #[.string ⟨(txB a.T).toArray⟩] w fun e w' => e = .returned (.agg (bytesA (dblL (txB a.T)))) ∧ Below w.heap.size w w' := (fun w => refDouble_any ⟨(txB a.T).toArray⟩ (by rw [mkb_size]; have := txB_le hok; omega) w)
    have HD := Lib.hid hD
    have HE := Lib.hid he
    clear hD hok he hi
    go_enter Try.func5, Try.ntmps5
    go_wp2_with ((with_reducible refine at_load 1 ?_); refine tyTx.wpList_load rfl (.tmp 1) rfl w.heap.size 0 rfl a (HB.out _) ?_)
    refine (refEncA_any a _ (HI.out _)).mono ?_
    rintro e w1 ⟨rfl, b1⟩
    have B1 := Lib.hid ((((Below.refl w.heap.size w).alloc (Nat.le_refl _) _).alloc (by simp) _).trans (b1.mono (by simp; omega)))
    have K2 := Lib.hid (below_blk b1 (blk_new (g := w.heap.size + 1) (w := w.alloc (.cells a.cells.toArray 29)) 24 _ (by simp)) (by simp))
    rw [HE.out]
    clear b1 HB HI
    unfold encV
    go_wp2_with fail
    refine (HD.out _).mono ?_
    rintro e w2 ⟨rfl, b2⟩
    have K3 := Lib.hid (below_blk b2 K2.out K2.out.lt)
    have B2 := Lib.hid (B1.out.trans (b2.mono B1.out.size))
    clear b2 HD K2 B1
    go_wp2_with ((with_reducible refine at_store 2 16 ?_); refine wpList_store_arr rfl 24 (.tmp 2) (.tmp 16) rfl rfl (w.heap.size + 1) (bytesA (dblL (txB a.T))) rfl rfl 24 _ K3.out (sz32 _ (dblL_len _)) (by rw [bytesA_size, dblL_len]; rfl) (bytesA_one _) ?_; intro w3 o3 b3)
    refine bodyPost_ret (results_cell_tmp1 rfl _ _ (w.heap.size + 1) 24 _ (0, 0) _ rfl b3 Try.underlying24 rfl (sz32 _ (dblL_len _))) rfl ⟨?_, B2.out.trans (o3.below (by simp))⟩
    unfold idV
    rw [encK_arr]
    rfl
  · rw [hi]
    have hd : (er == 0) = false := beq_eq_false_iff_ne.mpr h0
    have HE := Lib.hid he
    clear he hi h0
    go_enter Try.func5, Try.ntmps5
    go_wp2_with ((with_reducible refine at_load 1 ?_); refine tyTx.wpList_load rfl (.tmp 1) rfl w.heap.size 0 rfl a (HB.out _) ?_)
    refine (refEncA_any a _ (HI.out _)).mono ?_
    rintro e w1 ⟨rfl, b1⟩
    have B1 := Lib.hid ((((Below.refl w.heap.size w).alloc (Nat.le_refl _) _).alloc (by simp) _).trans (b1.mono (by simp; omega)))
    have K2 := Lib.hid (below_blk b1 (blk_new (g := w.heap.size + 1) (w := w.alloc (.cells a.cells.toArray 29)) 24 _ (by simp)) (by simp))
    rw [HE.out]
    clear b1 HB HI
    unfold encV
    go_wp2_with ((with_reducible refine at_store 2 13 ?_); refine wpList_store_arr rfl 24 (.tmp 2) (.tmp 13) rfl rfl (w.heap.size + 1) (encK zeroKey).toArray rfl (congrArg Value.agg lit32k) 24 _ K2.out (tyKy.arrS _) (by rw [tyKy.arr]; rfl) (tyKy.arr1 _) ?_; intro w3 o3 b3)
    exact bodyPost_ret (results_cell_tmp1 rfl _ _ (w.heap.size + 1) 24 _ (0, 0) _ rfl b3 Try.underlying24 rfl (tyKy.arrS _)) rfl ⟨rfl, B1.out.trans (o3.below (by simp))⟩
end Go.Proofs.Ytimhophelecmjaa
