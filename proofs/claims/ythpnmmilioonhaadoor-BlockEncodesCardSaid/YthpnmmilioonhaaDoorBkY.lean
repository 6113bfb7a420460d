/- writeTxs: a builder written in a loop over an iterator, up to the first transaction that has no bytes. -/
import Derived.Test.YthpnmmilioonhaaDoorBkV
namespace Go.Proofs.YthpnmmilioonhaaDoor
open Go.RowKit Go.Shelf
attribute [local go_sem] Oper.semAt_some
theorem txB_wr {T : TxV} (h : OkTx T) : (txB T).length ≤ 6000 := by
  have hlen := txB_len T h
  obtain ⟨o1, o2, o3, o4, _⟩ := h
  split at hlen <;> omega
theorem encTxs_six : ∀ (l : List TxV) (s : List UInt8), encTxs l = .ok s → s.length ≤ 6000 * l.length
  | [], s, h => by injection h with h; subst h; simp
  | T :: l, s, h => by
    unfold encTxs at h
    split at h
    · rename_i h0
      split at h
      · rename_i s' e
        injection h with h
        have h1 := encTxs_six l s' e
        have h2 := encF_zero h0
        have h3 := txB_wr h2.1
        rw [← h, List.length_append, List.length_cons, h2.2]
        omega
      · cases h
    · cases h
/-- how writeTxs ends -/
def EndWr (B gw : Nat) (w : World) (x : Except Int (List UInt8)) (e : Ending) (w' : World) : Prop :=
  Below B w w' ∧ match x with
  | .ok s => e = .returned (.int .i64 0) ∧ BldF B gw s w'
  | .error er => e = .returned (.int .i64 er)
theorem OfL.pre {l : List TxA} {k : Nat} {pre : List (OfL l)} {x : OfL l} (h : pre ++ [x] = l.attach.take k) : ∃ m, l = pre.map (·.1) ++ x.1 :: m := by
  have h1 := congrArg (List.map (·.1)) h
  rw [attach_take_map, List.map_append] at h1
  refine ⟨l.drop k, ?_⟩
  have h2 := (List.take_append_drop k l).symm
  rw [← h1] at h2
  simpa using h2
set_option maxRecDepth 100000 in
set_option maxHeartbeats 4000000 in
theorem writeTxs_in (B gw : Nat) (a : BkA) (w : World) (hB : B ≤ w.heap.size) (h : a.In w B) (h60 : a.txs.length ≤ 60) (hb : BldF B gw [] w) :
    CallsIn Fence.wide 9 Tryd.prog 24 #[.pointer (some ⟨gw, 0, none⟩), .agg a.cells.toArray] w (EndWr B gw w (encTxs (a.txs.map TxA.T))) := by
  have KA := Lib.hid (show RowC (((w.alloc (.cells #[.pointer (some ⟨gw, 0, none⟩)] 50)).alloc (.cells a.cells.toArray 27)).alloc (.cells #[.int .i64 0] 35)) (w.heap.size + 1) 0 a.cells from RowC.of_blk (by have := ((Blk.new (w.alloc (.cells #[.pointer (some ⟨gw, 0, none⟩)] 50)) 27 a.cells.toArray).alloc (.cells #[.int .i64 0] 35)); rw [World.size_alloc] at this; exact this))
  refine callsIn_of_wp_marks Tryd.func24 rfl trivial ?_ rfl
  refine wpIn_wide.2 ?_
  simp only [Tryd.ntmps24, List.size_toArray, List.length_cons, List.length_nil, Nat.reduceAdd, Nat.reduceSub, Array.replicate_succ, Array.replicate_zero, List.push_toArray, List.append_toArray, List.nil_append, List.cons_append]
  go_wp2_with (first
    | ((with_reducible refine at_load 3 ?_); refine tyBk.wpList_load rfl (.tmp 3) rfl (w.heap.size + 1) 0 rfl a KA.out ?_))
  refine (callsIn_wide.1 (txs_in Fence.wide 9 (by omega) trivial trivial rfl a _)).mono ?_
  rintro e w' ⟨rfl, rfl⟩
  go_wp2_with fail
  rw [← wpIn_wide (n := 9)]
  have bP := ((((Boxed.new w 50 (.pointer (some ⟨gw, 0, none⟩))).alloc (.cells a.cells.toArray 27)).alloc (.cells #[.int .i64 0] 35)).alloc (.cells a.cells.toArray 27)).alloc (.cells #[.slice a.A a.txs.length a.c] 25)
  have bE := ((Boxed.new ((w.alloc (.cells #[.pointer (some ⟨gw, 0, none⟩)] 50)).alloc (.cells a.cells.toArray 27)) 35 (.int .i64 0)).alloc (.cells a.cells.toArray 27)).alloc (.cells #[.slice a.A a.txs.length a.c] 25)
  have bA := Blk.new ((((w.alloc (.cells #[.pointer (some ⟨gw, 0, none⟩)] 50)).alloc (.cells a.cells.toArray 27)).alloc (.cells #[.int .i64 0] 35)).alloc (.cells a.cells.toArray 27)) 25 #[.slice a.A a.txs.length a.c]
  simp only [World.size_alloc] at bP bE bA
  have hB0 : Below w.heap.size w (((((w.alloc (.cells #[.pointer (some ⟨gw, 0, none⟩)] 50)).alloc (.cells a.cells.toArray 27)).alloc (.cells #[.int .i64 0] 35)).alloc (.cells a.cells.toArray 27)).alloc (.cells #[.slice a.A a.txs.length a.c] 25)) := (((((Below.refl _ w).alloc (Nat.le_refl _) _).alloc (by simp) _).alloc (by simp; omega) _).alloc (by simp; omega) _).alloc (by simp; omega) _
  have hsz : (((((w.alloc (.cells #[.pointer (some ⟨gw, 0, none⟩)] 50)).alloc (.cells a.cells.toArray 27)).alloc (.cells #[.int .i64 0] 35)).alloc (.cells a.cells.toArray 27)).alloc (.cells #[.slice a.A a.txs.length a.c] 25)).heap.size = w.heap.size + 5 := by simp
  obtain ⟨W0, hW0⟩ : ∃ W0, (((((w.alloc (.cells #[.pointer (some ⟨gw, 0, none⟩)] 50)).alloc (.cells a.cells.toArray 27)).alloc (.cells #[.int .i64 0] 35)).alloc (.cells a.cells.toArray 27)).alloc (.cells #[.slice a.A a.txs.length a.c] 25)) = W0 := ⟨_, rfl⟩
  rw [hW0] at bP bE bA hB0 hsz ⊢
  clear hW0 KA
  have IA := Lib.hid h
  have GL := Lib.hid (show gw < w.heap.size from by obtain ⟨_, _, _, q⟩ := bldF_blk hb; exact (Array.getElem?_eq_some_iff.1 q).1)
  have HG := bldF_below hb hB0
  clear h hb
  refine wpIn_rangeFunc_ownH rfl (by omega) (gf := 83) (lb := #[.pointer (some ⟨w.heap.size + 1 + 1 + 1 + 1, 0, none⟩)]) rfl trivial (enters_of Tryd.func83 (by kernel_rfl) rfl)
    (txs_stops Fence.wide 8 trivial rfl (by omega) (w.heap.size + 1 + 1 + 1 + 1) B a W0 (by omega) bA (IA.out.row.below (hB0.mono hB))) belowK_t (belowK_b (by omega)) (Below.refl _ _) (fun _ => rfl)
    (fun pre W => ((∃ s, encTxs (pre.map fun x => x.1.T) = .ok s ∧ BldF B gw s W) ∧ Boxed W w.heap.size 50 (.pointer (some ⟨gw, 0, none⟩)) ∧ Boxed W (w.heap.size + 1 + 1) 35 (.int .i64 0)) ∧ Below B w W)
    (fun c pre W => (c = .ret ∧ ∃ m x, pre = m ++ [x] ∧ ∃ s, encTxs (m.map fun x => x.1.T) = .ok s ∧ (encF x.1.T).2 ≠ 0 ∧ Boxed W (w.heap.size + 1 + 1) 35 (.int .i64 (encF x.1.T).2)) ∧ Below B w W)
    (OwnFrom.and (fun s X Y row hs hg hr => by
      obtain ⟨⟨q, h1, h2⟩, h3, h4⟩ := hs
      exact ⟨⟨q, h1, bldF_from h2 hg hr⟩, blk_from h3 hg hr, blk_from h4 hg hr⟩) (ownFrom_below hB (by omega)))
    (fun c => OwnFrom.and (fun s X Y row hs hg hr => by
      obtain ⟨h1, m, x, h2, q, h3, h4, h5⟩ := hs
      exact ⟨h1, m, x, h2, q, h3, h4, blk_from h5 hg hr⟩) (ownFrom_below hB (by omega)))
    ⟨⟨⟨[], rfl, HG⟩, bP, bE⟩, hB0.mono hB⟩
    (fun x a' W => ∃ Bx, w.heap.size + 1 + 1 < Bx ∧ Blk W Bx 32 x.1.cells.toArray ∧ a' = { tmps := #[.pointer (some ⟨gw, 0, none⟩), .agg a.cells.toArray, .pointer (some ⟨w.heap.size, 0, none⟩), .pointer (some ⟨w.heap.size + 1, 0, none⟩), .pointer (some ⟨w.heap.size + 1 + 1, 0, none⟩), .pointer (some ⟨Bx, 0, none⟩), undef, undef, .agg a.cells.toArray, .func (.func 83) #[] #[.pointer (some ⟨w.heap.size + 1 + 1 + 1 + 1, 0, none⟩)], .agg x.1.cells.toArray, undef, undef, undef, undef, undef, undef, undef, undef, undef, undef, undef], defers := [] })
    (fun x a' _ X Y row hs hg hr => by
      obtain ⟨Bx, h1, h2, h3⟩ := hs
      exact ⟨Bx, h1, blk_from h2 hg hr, h3⟩)
    ?assign ?body ?done ?stop
  case assign =>
    rintro l pre x W K ⟨⟨⟨s, h1, g1⟩, b1, b2⟩, hB1⟩ hK
    gi_wp2_with ((with_reducible refine at_storeIn 5 10 ?_); refine tyTx.wpListIn_storeNew rfl (.tmp 5) (.tmp 10) rfl rfl x.1 rfl rfl (by kernel_rfl) ?_)
    exact hK _ _ ((KeepsOthers.alloc _ _).from _) ((Below.refl _ W).alloc (Nat.le_trans hB hB1.size) _) ⟨⟨⟨s, h1, bldF_below g1 ((Below.refl _ _).alloc (Nat.le_refl _) _)⟩, b1.alloc _, b2.alloc _⟩, hB1.alloc (Nat.le_trans hB hB1.size) _⟩ ⟨W.heap.size, b2.lt, Blk.new W _ _, rfl⟩
  case body =>
    rintro l pre x a' W hl ⟨r, hr⟩ ⟨⟨⟨s, h1, g1⟩, b1, b2⟩, hB1⟩ ⟨Bx, hBx, bX, rfl⟩ hlt
    have HIN := Lib.hid (show x.1.In W W.heap.size from TxA.In.on (IA.out.each x.1 x.2) hB1 hB)
    have HL := Lib.hid (show s.length ≤ 6000 * 60 by
      have := encTxs_six _ s h1
      rw [List.length_map] at this
      omega)
    have HE := Lib.hid h1
    have KG := Lib.hid g1
    have K1 := Lib.hid b1
    have K2 := Lib.hid b2
    have KX := Lib.hid bX
    have HB1 := Lib.hid hB1
    have HBZ := Lib.hid hB
    have HBX := Lib.hid hBx
    clear h1 g1 b1 b2 bX hB1
    obtain ⟨TE, hTE⟩ : ∃ TE, encF x.1.T = TE := ⟨_, rfl⟩
    obtain ⟨bs, er⟩ := TE
    have HTE := Lib.hid hTE
    have HSN := Lib.hid (show er = 0 → bs.length ≤ 6000 ∧ encTxs ((pre ++ [x]).map fun x => x.1.T) = .ok (s ++ bs) from fun h0 => by
      have h2 : (encF x.1.T).2 = 0 := by rw [hTE]; exact h0
      have h3 := encF_zero h2
      refine ⟨by have := txB_wr h3.1; rw [← h3.2, hTE] at this; exact this, ?_⟩
      rw [List.map_append]
      have h4 := encTxs_snoc (pre.map fun x => x.1.T) x.1.T s HE.out
      rw [if_pos h2, hTE] at h4
      exact h4)
    clear hTE
    gi_wp2_with (first
      | ((with_reducible refine at_loadIn 5 ?_); refine tyTx.wpListIn_load rfl (.tmp 5) rfl Bx 0 rfl x.1 (RowC.of_blk KX.out) ?_)
      | (refine ⟨trivial, ?_⟩; gi_at_call 38; refine (CallsIn.inRound l (callsIn_wide.2 (encA_any x.1 _ HIN.out))).mono ?_
         rintro e w1 ⟨rfl, hb⟩
         have KF := Lib.hid (show KeepsFrom W0.heap.size W w1 from ⟨hb.size, fun k o _ hk _ => (hb.block k (Array.getElem?_eq_some_iff.1 hk).1).trans hk⟩)
         have HB2 := Lib.hid (hb.mono (Nat.le_trans HBZ.out HB1.out.size))
         have K3 := Lib.hid (show Boxed w1 w.heap.size 50 (.pointer (some ⟨gw, 0, none⟩)) from (hb.block _ K1.out.lt).trans K1.out)
         have K4 := Lib.hid (show Boxed w1 (w.heap.size + 1 + 1) 35 (.int .i64 0) from (hb.block _ K2.out.lt).trans K2.out)
         have KG2 := Lib.hid (bldF_below KG.out hb)
         have cP := K3.out.cell
         have cN := K4.out.cell
         have fN := K4.out.frozen
         rw [HTE.out]
         unfold encV
         clear hb K1 K2 KX KG
         obtain ⟨r0, hd⟩ : ∃ r0, (er == 0) = r0 := ⟨_, rfl⟩
         have HD := Lib.hid hd
         cases r0)
      | (refine ⟨trivial, ?_⟩; gi_at_call 53; refine (CallsIn.inRound l (callsIn_wide.2 (bldw_any B gw s bs _ KG2.out (by have := HL.out; have := (HSN.out (eq_of_beq HD.out)).1; omega) (Nat.le_trans HBZ.out (Nat.le_trans HB1.out.size HB2.out.size))))).mono ?_
         rintro e w2 ⟨rfl, g2, hb2, ok2⟩
         have KF2 := Lib.hid (show KeepsFrom W0.heap.size w1 w2 from by obtain ⟨_, _, _, q⟩ := bldF_blk KG2.out; exact ok_keeps ok2 q hb2.size _)
         have K5 := Lib.hid (show Boxed w2 w.heap.size 50 (.pointer (some ⟨gw, 0, none⟩)) from ok_blk ok2 K3.out (by have := GL.out; omega) (by decide))
         have K6 := Lib.hid (show Boxed w2 (w.heap.size + 1 + 1) 35 (.int .i64 0) from ok_blk ok2 K4.out (by have := GL.out; omega) (by decide))
         have G3 := Lib.hid g2
         have HB3 := Lib.hid hb2
         clear g2 hb2 ok2))
    · refine ⟨KF.out.trans ((KeepsOthers.setCell _ _ _).from _), ⟨rfl, pre, x, rfl, s, HE.out, ?_, ?_⟩, (HB1.out.trans HB2.out).setCell (p := ⟨w.heap.size + 1 + 1, 0, none⟩) (by have := HBZ.out; simp; omega) _⟩
      · rw [HTE.out]
        exact ne_of_beq_false HD.out
      · rw [HTE.out]
        exact K4.out.set _
    · refine ⟨KF.out.trans KF2.out, HB2.out.trans HB3.out, ⟨⟨s ++ bs, (HSN.out (eq_of_beq HD.out)).2, G3.out⟩, K5.out, K6.out⟩, HB1.out.trans (HB2.out.trans HB3.out)⟩
  case done =>
    rintro D ys W hD rfl ⟨⟨⟨s, h1, g1⟩, b1, b2⟩, hB1⟩ hK
    have cN := b2.cell
    have fN := b2.frozen
    have HE := Lib.hid h1
    have KG := Lib.hid g1
    clear h1 g1
    go_wp2
    have hK' := (KeepsOthers.setCell W ⟨w.heap.size + 1 + 1, 0, none⟩ (.int .i64 0)).same D _ hK rfl
    refine ⟨by simp, .inl ⟨_, _, rfl, run_takeDeferred hK', ?_⟩⟩
    have hc5 := cell_kept (b2.set (.int .i64 0)).cell (grownBy_putObj' _ D (.deferred none)) (fun r e => by cases e; exact ⟨_, hK', rfl⟩)
    refine ⟨.int .i64 0, by simp [results, Tryd.f24, go_sem, hc5], ?_⟩
    have hgb := (hB1.setCell (p := ⟨w.heap.size + 1 + 1, 0, none⟩) (by simp; omega) (.int .i64 0)).trans ((belowK_b (w := w) (Nat.le_refl _) _ D _ (.deferred none) (by omega) hK' rfl rfl).mono hB)
    refine ⟨hgb, ?_⟩
    rw [attach_T a.txs, HE.out]
    exact ⟨rfl, bldF_from (B0 := 0) (bldF_cell KG.out b2 (by decide) (by decide) (.int .i64 0)) (grownBy_putObj' _ D (.deferred none)) (fun r e => by cases e; exact ⟨Nat.zero_le _, _, hK', rfl⟩)⟩
  case stop =>
    rintro D c pre W hD ⟨k, hk, hpre⟩ ⟨⟨rfl, m, x, hm, s, h1, h2, h3⟩, hB1⟩ hK
    have HE := Lib.hid (show encTxs (a.txs.map TxA.T) = .error (encF x.1.T).2 by
      obtain ⟨m', hm'⟩ := OfL.pre (hm.symm.trans hpre)
      have e := congrArg (List.map TxA.T) hm'
      rw [List.map_append, List.map_cons, List.map_map] at e
      rw [e]
      exact encTxs_first _ _ _ s h1 h2)
    clear hpre hm h1
    gi_wp2
    refine ⟨by simp, .inl ⟨_, _, rfl, run_takeDeferred hK, ?_⟩⟩
    have hc5 := cell_kept h3.cell (grownBy_putObj' _ D (.deferred none)) (fun r e => by cases e; exact ⟨_, hK, rfl⟩)
    refine ⟨.int .i64 (encF x.1.T).2, by simp [results, Tryd.f24, go_sem, hc5], ?_⟩
    refine ⟨hB1.trans ((belowK_b (w := w) (Nat.le_refl _) W D _ (.deferred none) (by omega) hK rfl rfl).mono hB), ?_⟩
    rw [HE.out]
end Go.Proofs.YthpnmmilioonhaaDoor
