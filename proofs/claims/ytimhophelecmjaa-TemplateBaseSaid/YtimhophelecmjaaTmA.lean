/- Layer 21: Base, and the document's Size. Written by genTmA.py. -/
import Derived.Test.YtimhophelecmjaaLChBase
namespace Go.Proofs.Ytimhophelecmjaa
open Go.RowKit
/-- one result, which lies in a block whole -/
theorem tm_cell1 {P : Program} {fn : Func} {p : Tmp} {ty : TypeId} (h : fn.results = #[.cell p ty]) (tmps : Array Value) (w : World) (g : Nat) (t : TypeId) (cs : Array Value) (fr : Nat × Nat) (d : TypeDesc)
    (hp : tmps.getD p undef = .pointer (some ⟨g, 0, none⟩)) (hg : w.heap[g]? = some (.cells cs t fr))
    (hu : P.underlying ty = some d) (hd : (match d with | .struct _ | .array _ _ => true | _ => false) = true) (hi : (P.info? ty).map (·.size) = some cs.size) :
    (results fn tmps).run P w = .ok (.agg cs) w := by
  have hp' : tmps[p]?.getD undef = .pointer (some ⟨g, 0, none⟩) := by simpa using hp
  simp [results, h, hp', asAddr, run_loadVar_row w g t ty cs fr d hg hu hd hi]
def cosSize (T : TxV) : Nat := (encF T).1.length
theorem rSize_w (a : TxA) (w : World) (h : a.In w w.heap.size) :
    Calls Try.prog 9 #[.agg a.cells.toArray] w fun e w' => e = .returned (.int .i64 (cosSize a.T : Nat)) ∧ Below w.heap.size w w' := by
  have HI := Lib.hid (show a.In (w.alloc (.cells a.cells.toArray 29)) _ from TxA.In.on h ((Below.refl _ _).alloc (Nat.le_refl _) _) (Nat.le_refl _))
  have HB := Lib.hid (show RowC (w.alloc (.cells a.cells.toArray 29)) w.heap.size 0 a.cells from RowC.of_blk (Blk.new _ _ _))
  clear h
  unfold cosSize
  go_enter Try.func9, Try.ntmps9
  go_wp2_with ((with_reducible refine at_load 1 ?_); refine tyTx.wpList_load rfl (.tmp 1) rfl w.heap.size 0 rfl a HB.out ?_)
  refine (refEncA_any a _ HI.out).mono ?_
  rintro e w1 ⟨rfl, b1⟩
  unfold encV
  have B1 := Lib.hid (((Below.refl w.heap.size w).alloc (Nat.le_refl _) (.cells a.cells.toArray 29)).trans (b1.mono (by simp)))
  clear b1
  go_wp2_with fail
  go_ret
  exact ⟨by simp, B1.out⟩
set_option maxRecDepth 20000 in
set_option maxHeartbeats 8000000 in
theorem pBase_t (z : IntV .u32) (k : K32) (f : Int) (v : IntV .i64) (w : World) (hv : IntKind.i64.wrap (5000000 + f) = v.1) :
    Calls Try.prog 4 #[.int .u32 z.1, .agg (encK k).toArray, .int .i64 f] w fun e w' => ∃ a : TxA, e = .returned (.agg a.cells.toArray) ∧ a.T = bT z [(v, k)] [] [] ∧ a.In w' w'.heap.size ∧ Below w.heap.size w w' := by
  go_enter Try.func4, Try.ntmps4
  go_wp2_with (first
    | ((with_reducible refine at_build 8 ?_); refine wpList_built rfl 43 #[(1, .tmp 7)] rfl (encKI .u32 ((zeroKey, z) : PtC)).toArray (built_bP _ rfl z) ?_)
    | ((with_reducible refine at_buildSlice 9 ?_); refine tyPt.wpList_build rfl zsPt 1 _ rfl [((zeroKey, z) : PtC)] rfl (by omega) (by omega) (by kernel_rfl) ?_)
    | ((with_reducible refine at_load 4 ?_); refine tyKc.wpList_load rfl (.tmp 4) rfl w.heap.size 0 rfl k (RowC.of_blk (((Blk.new w 24 _).alloc _).alloc _)) ?_)
    | ((with_reducible refine at_build 13 ?_); refine wpList_built rfl 37 #[(0, .tmp 11), (1, .tmp 12)] rfl (encIK .i64 (v, k)).toArray ((congrArg (Try.prog.built 37) (show _ = [(0, Value.int .i64 v.1), (1, Value.agg (encK k).toArray)] by kernel_rfl)).trans (built_IK _ rfl k v)) ?_)
    | ((with_reducible refine at_buildSlice 14 ?_); refine tyOut.wpList_build rfl bzsO 1 _ rfl [(v, k)] rfl (by omega) (by omega) (by kernel_rfl) ?_)
    | ((with_reducible refine at_build 15 ?_); simp only [World.size_alloc]; refine wpList_built rfl 29 #[(1, .tmp 9), (2, .tmp 14)] rfl (bA z (w.heap.size + 1 + 1) [(v, k)] (some ⟨w.heap.size + 1 + 1 + 1, 0, none⟩) 1 [] none 0 [] none 0).cells.toArray (by kernel_rfl) ?_)
    | ((with_reducible refine at_store 6 15 ?_); refine tyTx.wpList_store rfl (.tmp 6) (.tmp 15) rfl rfl (w.heap.size + 1) (bA z (w.heap.size + 1 + 1) [(v, k)] (some ⟨w.heap.size + 1 + 1 + 1, 0, none⟩) 1 [] none 0 [] none 0) rfl rfl 29 _ (((blk_new (g := w.heap.size + 1) 29 _ (by simp)).alloc _).alloc _) rfl ?_; intro w3 o3 b3))
  have P3 := o3.blk ((Blk.new ((w.alloc _).alloc _) 43 (bP z)).alloc _) (by simp)
  have Q3 := o3.blk (Blk.new (((w.alloc _).alloc _).alloc _) 37 (cellsOf (encIK .i64) [(v, k)]).toArray) (by simp; omega)
  simp only [World.size_alloc] at P3 Q3
  have B3 := (((((Below.refl w.heap.size w).alloc (Nat.le_refl _) _).alloc (by simp) _).alloc (by simp; omega) _).alloc (by simp; omega) _).trans (o3.below (by simp))
  refine bodyPost_ret (tm_cell1 rfl _ _ (w.heap.size + 1) 29 _ (0, 0) _ rfl b3 Try.underlying29 rfl (by rw [tyTx.arr]; kernel_rfl)) rfl ⟨(bA z (w.heap.size + 1 + 1) [(v, k)] (some ⟨w.heap.size + 1 + 1 + 1, 0, none⟩) 1 [] none 0 [] none 0), rfl, rfl, ?_, B3⟩
  exact bA_in P3 ((rowIn_blk (c := 1) (l := [(v, k)]) Q3 (by simp) (by decide)).more (Nat.succ_le_of_lt Q3.lt)) (RowIn.nil (Nat.zero_le _)) (RowIn.nil (Nat.zero_le _))
end Go.Proofs.Ytimhophelecmjaa
