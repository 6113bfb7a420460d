/- Sigs over the iterator. -/
import Derived.Test.YthpnmmilioonhaaDoorBkG
import Derived.Test.YthpnmmilioonhaaDoorTxAllB
namespace Go.Proofs.YthpnmmilioonhaaDoor
open Go.RowKit Go.Shelf
attribute [local go_sem] Oper.semAt_some
set_option maxRecDepth 100000 in
set_option maxHeartbeats 4000000 in
theorem sigs_in (a : BkA) (w : World) (h : a.In w w.heap.size) (h40 : a.txs.length ≤ 40) (hv : ∀ t ∈ a.txs, t.T.ins.length ≤ 60) :
    CallsIn Fence.wide 9 Tryd.prog 14 #[.agg a.cells.toArray] w fun e w' => e = .returned (.int .i64 (sigsF (a.txs.map TxA.T) : Nat)) ∧ Below w.heap.size w w' := by
  have KA := Lib.hid (show RowC ((w.alloc (.cells a.cells.toArray 27)).alloc (.cells #[.int .i64 0] 3)) w.heap.size 0 a.cells from RowC.of_blk ((Blk.new _ _ _).alloc _))
  refine callsIn_of_wp_marks Tryd.func14 rfl trivial ?_ rfl
  refine wpIn_wide.2 ?_
  simp only [Tryd.ntmps14, List.size_toArray, List.length_cons, List.length_nil, Nat.reduceAdd, Nat.reduceSub, Array.replicate_succ, Array.replicate_zero, List.push_toArray, List.append_toArray, List.nil_append, List.cons_append]
  go_wp2_with (first
    | ((with_reducible refine at_load 1 ?_); refine tyBk.wpList_load rfl (.tmp 1) rfl w.heap.size 0 rfl a KA.out ?_))
  refine (callsIn_wide.1 (txs_in Fence.wide 9 (by omega) trivial trivial rfl a _)).mono ?_
  rintro e w' ⟨rfl, rfl⟩
  go_wp2_with fail
  rw [← wpIn_wide (n := 9)]
  have bN := ((Boxed.new (w.alloc (.cells a.cells.toArray 27)) 3 (.int .i64 0)).alloc (.cells a.cells.toArray 27)).alloc (.cells #[.slice a.A a.txs.length a.c] 25)
  have bA := Blk.new (((w.alloc (.cells a.cells.toArray 27)).alloc (.cells #[.int .i64 0] 3)).alloc (.cells a.cells.toArray 27)) 25 #[.slice a.A a.txs.length a.c]
  simp only [World.size_alloc] at bN bA
  have hB0 : Below w.heap.size w ((((w.alloc (.cells a.cells.toArray 27)).alloc (.cells #[.int .i64 0] 3)).alloc (.cells a.cells.toArray 27)).alloc (.cells #[.slice a.A a.txs.length a.c] 25)) := ((((Below.refl _ w).alloc (Nat.le_refl _) _).alloc (by simp) _).alloc (by simp; omega) _).alloc (by simp; omega) _
  have hsz : ((((w.alloc (.cells a.cells.toArray 27)).alloc (.cells #[.int .i64 0] 3)).alloc (.cells a.cells.toArray 27)).alloc (.cells #[.slice a.A a.txs.length a.c] 25)).heap.size = w.heap.size + 4 := by simp
  obtain ⟨W0, hW0⟩ : ∃ W0, (((w.alloc (.cells a.cells.toArray 27)).alloc (.cells #[.int .i64 0] 3)).alloc (.cells a.cells.toArray 27)).alloc (.cells #[.slice a.A a.txs.length a.c] 25) = W0 := ⟨_, rfl⟩
  rw [hW0] at bN bA hB0 hsz ⊢
  clear hW0 KA
  have IA := Lib.hid h
  have HV := Lib.hid hv
  clear h hv
  refine wpIn_rangeFunc_ownH rfl (by omega) (gf := 83) (lb := #[.pointer (some ⟨w.heap.size + 1 + 1 + 1, 0, none⟩)]) rfl trivial (enters_of Tryd.func83 (by kernel_rfl) rfl)
    (txs_stops Fence.wide 8 trivial rfl (by omega) (w.heap.size + 1 + 1 + 1) w.heap.size a W0 (by omega) bA (IA.out.row.below hB0)) belowK_t (belowK_b (by omega)) (Below.refl _ _) (fun _ => rfl)
    (fun pre W => Boxed W (w.heap.size + 1) 3 (.int .i64 (sigsF (pre.map fun x => x.1.T) : Nat)) ∧ Below w.heap.size w W)
    (fun _ _ _ => False)
    (OwnFrom.and (Own.from (boxed_own _ _ _) _) (ownFrom_below (Nat.le_refl _) (by omega)))
    (fun _ _ _ _ _ hs _ _ => hs)
    ⟨bN, hB0⟩
    (fun x a' W => ∃ Bx, w.heap.size + 1 < Bx ∧ Blk W Bx 32 x.1.cells.toArray ∧ a' = { tmps := #[.agg a.cells.toArray, .pointer (some ⟨w.heap.size, 0, none⟩), .int .i64 0, .pointer (some ⟨w.heap.size + 1, 0, none⟩), .pointer (some ⟨Bx, 0, none⟩), .agg a.cells.toArray, .func (.func 83) #[] #[.pointer (some ⟨w.heap.size + 1 + 1 + 1, 0, none⟩)], .agg x.1.cells.toArray, undef, undef, undef, undef, undef, undef, undef, undef, undef], defers := [] })
    (fun x a' _ X Y row hs hg hr => by
      obtain ⟨Bx, h1, h2, h3⟩ := hs
      refine ⟨Bx, h1, (hg.block Bx h2.lt (fun e => ?_)).trans h2, h3⟩
      obtain ⟨_, o, ho, hc⟩ := hr Bx e.symm
      rw [show X.heap[Bx]? = _ from h2] at ho
      cases ho
      cases hc)
    ?assign ?body ?done ?stop
  case assign =>
    rintro l pre x W K ⟨b1, hB1⟩ hK
    gi_wp2_with ((with_reducible refine at_storeIn 4 7 ?_); refine tyTx.wpListIn_storeNew rfl (.tmp 4) (.tmp 7) rfl rfl x.1 rfl rfl (by kernel_rfl) ?_)
    exact hK _ _ ((KeepsOthers.alloc _ _).from _) ((Below.refl _ W).alloc hB1.size _) ⟨b1.alloc _, hB1.alloc hB1.size _⟩ ⟨W.heap.size, b1.lt, Blk.new W _ _, rfl⟩
  case body =>
    rintro l pre x a' W hl ⟨r, hr⟩ ⟨b1, hB1⟩ ⟨Bx, hBx, bX, rfl⟩ hlt
    have HIN := Lib.hid (show x.1.In W W.heap.size from TxA.In.on (IA.out.each x.1 x.2) hB1 (Nat.le_refl _))
    have HX := Lib.hid (HV.out x.1 x.2)
    have hq : sigsF (pre.map fun x => x.1.T) ≤ 2400 := by
      have h1 := sigsF_le (pre.map fun x => x.1.T) (fun T hT => by obtain ⟨y, _, rfl⟩ := List.mem_map.1 hT; exact HV.out y.1 y.2)
      rw [List.length_map] at h1
      omega
    have HN := Lib.hid (show sigsF ((pre ++ [x]).map fun x => x.1.T) = sigsF (pre.map fun x => x.1.T) + sigF x.1.T by rw [List.map_append]; exact sigsF_snoc _ _)
    obtain ⟨q, hqq⟩ : ∃ q, sigsF (pre.map fun x => x.1.T) = q := ⟨_, rfl⟩
    rw [hqq] at b1 hq HN
    clear hqq
    have hsg : sigF x.1.T = if coinF x.1.T then 0 else x.1.T.ins.length := rfl
    obtain ⟨cb, hcb⟩ : ∃ cb, coinF x.1.T = cb := ⟨_, rfl⟩
    rw [hcb] at hsg
    have HC := Lib.hid hcb
    have HSG := Lib.hid hsg
    have K1 := Lib.hid b1
    have KX := Lib.hid bX
    have HB1 := Lib.hid hB1
    clear hcb hsg b1 bX hB1
    gi_wp2_with (first
      | ((with_reducible refine at_loadIn 4 ?_); refine tyTx.wpListIn_load rfl (.tmp 4) rfl Bx 0 rfl x.1 (RowC.of_blk KX.out) ?_)
      | (refine ⟨trivial, ?_⟩; gi_at_call 36; refine (CallsIn.inRound l (callsIn_wide.2 (coin_any x.1 _ HIN.out))).mono ?_
         rintro e w1 ⟨rfl, hb⟩
         have KF := Lib.hid (show KeepsFrom W0.heap.size W w1 from ⟨hb.size, fun k o _ hk _ => (hb.block k (Array.getElem?_eq_some_iff.1 hk).1).trans hk⟩)
         have HB2 := Lib.hid (hb.mono HB1.out.size)
         have K2 := Lib.hid (show Boxed w1 (w.heap.size + 1) 3 (.int .i64 (q : Nat)) from (hb.block _ K1.out.lt).trans K1.out)
         have KX2 := Lib.hid (below_blk hb KX.out KX.out.lt)
         have cN := K2.out.cell
         have fN := K2.out.frozen
         have d1 := TxA.c1 (RowC.of_blk KX2.out)
         have hx60 := HX.out
         rw [HC.out]
         clear hb K1 KX
         cases cb))
    · have HW := Lib.hid (show wrap64 ((q : Int) + (x.1.T.ins.length : Int)) = ((q + x.1.T.ins.length : Nat) : Int) by unfold wrap64; omega)
      gi_wp2
      refine ⟨KF.out.trans ((KeepsOthers.setCell _ _ _).from _), HB2.out.setCell (p := ⟨w.heap.size + 1, 0, none⟩) (by simp) _, ?_, (HB1.out.trans HB2.out).setCell (p := ⟨w.heap.size + 1, 0, none⟩) (by simp) _⟩
      rw [HN.out, HSG.out]
      exact K2.out.set _
    · gi_wp2
      refine ⟨KF.out, HB2.out, ?_, HB1.out.trans HB2.out⟩
      rw [HN.out, HSG.out]
      exact K2.out
  case done =>
    rintro D ys W hD rfl ⟨b1, hB1⟩ hK
    have cN := b1.cell
    go_wp2
    refine ⟨by simp, .inl ⟨_, _, rfl, run_takeDeferred hK, ?_⟩⟩
    refine ⟨_, results_tmp rfl _ _ _, ?_, hB1.trans (belowK_b (w := w) (Nat.le_refl _) W D _ _ (by omega) hK rfl rfl)⟩
    rw [attach_T a.txs]
    rfl
  case stop =>
    rintro D c pre W _ _ h _
    exact h.elim
end Go.Proofs.YthpnmmilioonhaaDoor
