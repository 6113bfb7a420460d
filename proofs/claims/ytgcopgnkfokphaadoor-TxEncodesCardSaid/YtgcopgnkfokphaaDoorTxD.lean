/- tx.Decode. -/
import Derived.Test.YtgcopgnkfokphaaDoorTxZ
import Derived.Test.YtgcopgnkfokphaaDoorGenA
namespace Go.Proofs.YtgcopgnkfokphaaDoor
open Go.RowKit
theorem results_cell_tmp1 {P : Program} {fn : Func} {p t1 : Tmp} {ty : TypeId} (h : fn.results = #[.cell p ty, .tmp t1]) (tmps : Array Value) (w : World) (g : Nat) (t : TypeId) (cs : Array Value) (fr : Nat × Nat) (d : TypeDesc)
    (hp : tmps.getD p undef = .pointer (some ⟨g, 0, none⟩)) (hg : w.heap[g]? = some (.cells cs t fr))
    (hu : P.underlying ty = some d) (hd : (match d with | .struct _ | .array _ _ => true | _ => false) = true) (hi : (P.info? ty).map (·.size) = some cs.size) :
    (results fn tmps).run P w = .ok (.tuple #[.agg cs, tmps.getD t1 undef]) w := by
  have hp' : tmps[p]?.getD undef = .pointer (some ⟨g, 0, none⟩) := by simpa using hp
  simp [results, h, hp', asAddr, run_loadVar_row w g t ty cs fr d hg hu hd hi]
/-- what Decode's answer is -/
def EndD (w : World) (x : TxV × Int) (e : Ending) (w' : World) : Prop :=
  (∃ a : TxA, a.T = x.1 ∧ e = .returned (.tuple #[.agg a.cells.toArray, .int .i64 x.2]) ∧ TL w' a) ∧ Below w.heap.size w w'
set_option maxRecDepth 20000 in
theorem dec_r (l : List UInt8) (hs : l.length ≤ 1000000) (w : World) :
    Calls Tryd.prog 16 #[.string ⟨l.toArray⟩] w (EndD w (decTx l)) := by
  have hc := read_r l hs
  cases hq : txR l with
  | error er =>
    rw [show decTx l = (noTx, er) by unfold decTx; rw [hq]]
    have he0 : er ≠ 0 := by rcases errs_tx l er hq with h | h | h <;> omega
    have hd : (er == 0) = false := beq_eq_false_iff_ne.mpr he0
    rw [show readTx l = (noTx, [], er) by unfold readTx; rw [hq]] at hc
    have HC := Lib.hid hc
    clear hq hc he0
    go_enter Tryd.func16, Tryd.ntmps16
    go_wp2_with fail
    refine (HC.out _).mono ?_
    rintro e w1 ⟨⟨a, ha, rfl, tl⟩, b1⟩
    have K2 := Lib.hid (below_blk b1 (Blk.new w 29 _) (by simp))
    have BH := Lib.hid (((Below.refl w.heap.size w).alloc (Nat.le_refl _) _).trans (b1.mono (by simp)))
    have l1 : w.heap.size < w1.heap.size := K2.out.lt
    clear b1 HC ha tl
    go_wp2_with (first
      | ((with_reducible refine at_store 4 10 ?_); refine tyTx.wpList_store rfl (.tmp 4) (.tmp 10) rfl rfl w1.heap.size a rfl rfl 29 _ (Blk.new w1 _ _) rfl ?_; intro w2 o2 b2)
      | ((with_reducible refine at_build 15 ?_); refine wpList_built rfl 29 #[] rfl aZ.cells.toArray (by kernel_rfl) ?_)
      | ((with_reducible refine at_store 2 15 ?_); refine tyTx.wpList_store rfl (.tmp 2) (.tmp 15) rfl rfl w.heap.size aZ rfl rfl 29 _ (o2.blk (K2.out.alloc _) (by simp; omega)) rfl ?_; intro w3 o3 b3))
    exact bodyPost_ret (results_cell_tmp1 rfl _ _ w.heap.size 29 _ (0, 0) _ rfl b3 Tryd.underlying29 rfl (by rw [tyTx.arr]; kernel_rfl)) rfl ⟨⟨aZ, aZ_no, rfl, tl_no _⟩, ((BH.out.alloc BH.out.size _).trans (o2.below (by simp; exact BH.out.size))).trans (o3.below (by simp))⟩
  | ok x =>
    obtain ⟨T, r⟩ := x
    rw [show readTx l = (T, r, 0) by unfold readTx; rw [hq]] at hc
    have HC := Lib.hid hc
    clear hc
    cases r with
    | nil =>
      rw [show decTx l = (T, 0) by unfold decTx; rw [hq]; rfl]
      clear hq
      go_enter Tryd.func16, Tryd.ntmps16
      go_wp2_with fail
      refine (HC.out _).mono ?_
      rintro e w1 ⟨⟨a, rfl, rfl, tl⟩, b1⟩
      have K2 := Lib.hid (below_blk b1 (Blk.new w 29 _) (by simp))
      have BH := Lib.hid (((Below.refl w.heap.size w).alloc (Nat.le_refl _) _).trans (b1.mono (by simp)))
      have l1 : w.heap.size < w1.heap.size := K2.out.lt
      have HTL := Lib.hid tl
      clear b1 HC tl
      go_wp2_with (first
        | ((with_reducible refine at_store 4 10 ?_); refine tyTx.wpList_store rfl (.tmp 4) (.tmp 10) rfl rfl w1.heap.size a rfl rfl 29 _ (Blk.new w1 _ _) rfl ?_; intro w2 o2 b2; have TL2 := Lib.hid ((HTL.out.below ((Below.refl _ _).alloc (Nat.le_refl _) _)).onlyX o2 (Blk.new w1 29 _)))
        | ((with_reducible refine at_load 4 ?_); refine tyTx.wpList_load rfl (.tmp 4) rfl w1.heap.size 0 rfl a (by simpa using RowC.of_blk b2) ?_)
        | ((with_reducible refine at_store 2 20 ?_); refine tyTx.wpList_store rfl (.tmp 2) (.tmp 20) rfl rfl w.heap.size a rfl rfl 29 _ (o2.blk (K2.out.alloc _) (by simp; omega)) rfl ?_; intro w3 o3 b3))
      exact bodyPost_ret (results_cell_tmp1 rfl _ _ w.heap.size 29 _ (0, 0) _ rfl b3 Tryd.underlying29 rfl (by rw [tyTx.arr]; kernel_rfl)) rfl ⟨⟨a, rfl, rfl, TL2.out.onlyX o3 (o2.blk (K2.out.alloc _) (by simp; omega))⟩, ((BH.out.alloc BH.out.size _).trans (o2.below (by simp; exact BH.out.size))).trans (o3.below (by simp))⟩
    | cons b t =>
      rw [show decTx l = (noTx, 50) by unfold decTx; rw [hq]; rfl]
      clear hq
      go_enter Tryd.func16, Tryd.ntmps16
      go_wp2_with fail
      refine (HC.out _).mono ?_
      rintro e w1 ⟨⟨a, rfl, rfl, tl⟩, b1⟩
      have K2 := Lib.hid (below_blk b1 (Blk.new w 29 _) (by simp))
      have BH := Lib.hid (((Below.refl w.heap.size w).alloc (Nat.le_refl _) _).trans (b1.mono (by simp)))
      have l1 : w.heap.size < w1.heap.size := K2.out.lt
      clear b1 HC tl
      go_wp2_with (first
        | ((with_reducible refine at_store 4 10 ?_); refine tyTx.wpList_store rfl (.tmp 4) (.tmp 10) rfl rfl w1.heap.size a rfl rfl 29 _ (Blk.new w1 _ _) rfl ?_; intro w2 o2 b2)
        | ((with_reducible refine at_build 19 ?_); refine wpList_built rfl 29 #[] rfl aZ.cells.toArray (by kernel_rfl) ?_)
        | ((with_reducible refine at_store 2 19 ?_); refine tyTx.wpList_store rfl (.tmp 2) (.tmp 19) rfl rfl w.heap.size aZ rfl rfl 29 _ (o2.blk (K2.out.alloc _) (by simp; omega)) rfl ?_; intro w3 o3 b3))
      exact bodyPost_ret (results_cell_tmp1 rfl _ _ w.heap.size 29 _ (0, 0) _ rfl b3 Tryd.underlying29 rfl (by rw [tyTx.arr]; kernel_rfl)) rfl ⟨⟨aZ, aZ_no, rfl, tl_no _⟩, ((BH.out.alloc BH.out.size _).trans (o2.below (by simp; exact BH.out.size))).trans (o3.below (by simp))⟩
end Go.Proofs.YtgcopgnkfokphaaDoor
