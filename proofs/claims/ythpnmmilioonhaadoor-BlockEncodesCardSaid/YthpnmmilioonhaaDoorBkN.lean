/- Notes over the iterator. -/
import Derived.Test.YthpnmmilioonhaaDoorBkG
import Derived.Test.YthpnmmilioonhaaDoorTxAllB
namespace Go.Proofs.YthpnmmilioonhaaDoor
open Go.RowKit Go.Shelf
attribute [local go_sem] Oper.semAt_some
/-- a block of cells lies on whatever turns that is no cells -/
theorem blk_from {X Y : World} {row : Option Nat} {g : Nat} {t : TypeId} {cs : Array Value} {B : Nat} (h : Blk X g t cs) (hg : X.grownBy Y row) (hr : ∀ r, row = some r → B ≤ r ∧ ∃ o : Obj, X.heap[r]? = some o ∧ o.isCells = false) : Blk Y g t cs :=
  (hg.block g h.lt (fun e => by
    obtain ⟨_, o, ho, hc⟩ := hr g e.symm
    rw [show X.heap[g]? = _ from h] at ho
    cases ho
    cases hc)).trans h
/-- a slice that a box holds has grown: back into its box (nothing was laid ahead of it) -/
theorem boxed_appended {W w1 : World} {n₀ B : Nat} {t e : TypeId} {size : Nat} {v v' : Value} {k m : Nat} {xs ys : List Value}
    (hv : Boxed W B t v) (hte : t ≠ e) (hrow : W.ownsRow n₀ e size v k xs) (hn₀ : n₀ ≤ W.heap.size) (hB : n₀ ≤ B)
    (hown' : w1.ownsRow n₀ e size v' m ys) (hgrow : W.grownBy w1 v.ownBlock) :
    Boxed w1 B t v ∧ Boxed (w1.setCell ⟨B, 0, none⟩ v') B t v' ∧ (w1.setCell ⟨B, 0, none⟩ v').ownsRow n₀ e size v' m ys ∧ KeepsOthers W (w1.setCell ⟨B, 0, none⟩ v') ∧ Below n₀ W (w1.setCell ⟨B, 0, none⟩ v') := by
  have hv1 : Boxed w1 B t v := hv.kept hgrow (hv.not_row hte hrow)
  refine ⟨hv1, hv1.set v', hown'.kept (grownBy_setCell' w1 B v') (.inr (hv1.not_row hte hown').symm), ?_, ?_⟩
  · refine (KeepsOthers.of_grownBy hgrow fun j o ej hj => ?_).trans (KeepsOthers.setCell _ _ _)
    rcases hrow.2 with ⟨rfl, _⟩ | ⟨g, cap, cur, rfl, _, hgb, _⟩
    · simp [Value.ownBlock] at ej
    · obtain rfl : g = j := by simpa [Value.ownBlock] using ej
      rw [hgb] at hj; cases hj; rfl
  · refine ((Below.refl n₀ W).grown hgrow hn₀ fun j ej => ?_).setCell (p := ⟨B, 0, none⟩) hB v'
    rcases hrow.2 with ⟨rfl, _⟩ | ⟨g, cap, cur, rfl, hb, _, _⟩
    · simp [Value.ownBlock] at ej
    · obtain rfl : g = j := by simpa [Value.ownBlock] using ej
      exact hb
set_option maxRecDepth 100000 in
set_option maxHeartbeats 4000000 in
theorem notes_in (a : BkA) (w : World) (h : a.In w w.heap.size) (h40 : a.txs.length ≤ 40) (hv : ∀ t ∈ a.txs, t.T.notes.length ≤ 60) :
    CallsIn Fence.wide 9 Tryd.prog 12 #[.agg a.cells.toArray] w fun e w' => ∃ v, e = .returned v ∧ w'.ownsRow w.heap.size 23 32 v (notesF (a.txs.map TxA.T)).length (cellsOf encK (notesF (a.txs.map TxA.T))) ∧ Below w.heap.size w w' := by
  have KA := Lib.hid (show RowC ((w.alloc (.cells a.cells.toArray 27)).alloc (.cells #[.slice none 0 0] 30)) w.heap.size 0 a.cells from RowC.of_blk ((Blk.new _ _ _).alloc _))
  refine callsIn_of_wp_marks Tryd.func12 rfl trivial ?_ rfl
  refine wpIn_wide.2 ?_
  simp only [Tryd.ntmps12, List.size_toArray, List.length_cons, List.length_nil, Nat.reduceAdd, Nat.reduceSub, Array.replicate_succ, Array.replicate_zero, List.push_toArray, List.append_toArray, List.nil_append, List.cons_append]
  go_wp2_with (first
    | ((with_reducible refine at_load 1 ?_); refine tyBk.wpList_load rfl (.tmp 1) rfl w.heap.size 0 rfl a KA.out ?_))
  refine (callsIn_wide.1 (txs_in Fence.wide 9 (by omega) trivial trivial rfl a _)).mono ?_
  rintro e w' ⟨rfl, rfl⟩
  go_wp2_with fail
  rw [← wpIn_wide (n := 9)]
  have bN := ((Boxed.new (w.alloc (.cells a.cells.toArray 27)) 30 (.slice none 0 0)).alloc (.cells a.cells.toArray 27)).alloc (.cells #[.slice a.A a.txs.length a.c] 25)
  have bA := Blk.new (((w.alloc (.cells a.cells.toArray 27)).alloc (.cells #[.slice none 0 0] 30)).alloc (.cells a.cells.toArray 27)) 25 #[.slice a.A a.txs.length a.c]
  simp only [World.size_alloc] at bN bA
  have hB0 : Below w.heap.size w ((((w.alloc (.cells a.cells.toArray 27)).alloc (.cells #[.slice none 0 0] 30)).alloc (.cells a.cells.toArray 27)).alloc (.cells #[.slice a.A a.txs.length a.c] 25)) := ((((Below.refl _ w).alloc (Nat.le_refl _) _).alloc (by simp) _).alloc (by simp; omega) _).alloc (by simp; omega) _
  have hsz : ((((w.alloc (.cells a.cells.toArray 27)).alloc (.cells #[.slice none 0 0] 30)).alloc (.cells a.cells.toArray 27)).alloc (.cells #[.slice a.A a.txs.length a.c] 25)).heap.size = w.heap.size + 4 := by simp
  obtain ⟨W0, hW0⟩ : ∃ W0, (((w.alloc (.cells a.cells.toArray 27)).alloc (.cells #[.slice none 0 0] 30)).alloc (.cells a.cells.toArray 27)).alloc (.cells #[.slice a.A a.txs.length a.c] 25) = W0 := ⟨_, rfl⟩
  rw [hW0] at bN bA hB0 hsz ⊢
  clear hW0 KA
  have IA := Lib.hid h
  have HV := Lib.hid hv
  clear h hv
  refine wpIn_rangeFunc_ownH rfl (by omega) (gf := 83) (lb := #[.pointer (some ⟨w.heap.size + 1 + 1 + 1, 0, none⟩)]) rfl trivial (enters_of Tryd.func83 (by kernel_rfl) rfl)
    (txs_stops Fence.wide 8 trivial rfl (by omega) (w.heap.size + 1 + 1 + 1) w.heap.size a W0 (by omega) bA (IA.out.row.below hB0)) belowK_t (belowK_b (by omega)) (Below.refl _ _) (fun _ => rfl)
    (fun pre W => (∃ v, Boxed W (w.heap.size + 1) 30 v ∧ W.ownsRow w.heap.size 23 32 v (notesF (pre.map fun x => x.1.T)).length (cellsOf encK (notesF (pre.map fun x => x.1.T))) ∧ True) ∧ Below w.heap.size w W)
    (fun _ _ _ => False)
    (OwnFrom.and (Own.from (holdsRow_own w.heap.size (w.heap.size + 1) 30 23 32 (fun pre : List (OfL a.txs) => (notesF (pre.map fun x => x.1.T)).length) (fun pre : List (OfL a.txs) => cellsOf encK (notesF (pre.map fun x => x.1.T))) (fun _ _ => True)) _) (ownFrom_below (Nat.le_refl _) (by omega)))
    (fun _ _ _ _ _ hs _ _ => hs)
    ⟨⟨_, bN, World.ownsRow_nil _ _ _ _, trivial⟩, hB0⟩
    (fun x a' W => ∃ Bx, w.heap.size + 1 < Bx ∧ Blk W Bx 32 x.1.cells.toArray ∧ a' = { tmps := #[.agg a.cells.toArray, .pointer (some ⟨w.heap.size, 0, none⟩), .slice none 0 0, .pointer (some ⟨w.heap.size + 1, 0, none⟩), .pointer (some ⟨Bx, 0, none⟩), .agg a.cells.toArray, .func (.func 83) #[] #[.pointer (some ⟨w.heap.size + 1 + 1 + 1, 0, none⟩)], .agg x.1.cells.toArray, undef, undef, undef, undef, undef], defers := [] })
    (fun x a' _ X Y row hs hg hr => by
      obtain ⟨Bx, h1, h2, h3⟩ := hs
      exact ⟨Bx, h1, blk_from h2 hg hr, h3⟩)
    ?assign ?body ?done ?stop
  case assign =>
    rintro l pre x W K ⟨⟨v, b1, o1, _⟩, hB1⟩ hK
    gi_wp2_with ((with_reducible refine at_storeIn 4 7 ?_); refine tyTx.wpListIn_storeNew rfl (.tmp 4) (.tmp 7) rfl rfl x.1 rfl rfl (by kernel_rfl) ?_)
    exact hK _ _ ((KeepsOthers.alloc _ _).from _) ((Below.refl _ W).alloc hB1.size _) ⟨⟨v, b1.alloc _, o1.alloc _, trivial⟩, hB1.alloc hB1.size _⟩ ⟨W.heap.size, b1.lt, Blk.new W _ _, rfl⟩
  case body =>
    rintro l pre x a' W hl ⟨r, hr⟩ ⟨⟨v, b1, o1, _⟩, hB1⟩ ⟨Bx, hBx, bX, rfl⟩ hlt
    have HIN := Lib.hid (show x.1.In W W.heap.size from TxA.In.on (IA.out.each x.1 x.2) hB1 (Nat.le_refl _))
    have HX := Lib.hid (HV.out x.1 x.2)
    have hq := notesF_len (pre.map fun x => x.1.T) (fun T hT => by obtain ⟨y, _, rfl⟩ := List.mem_map.1 hT; exact HV.out y.1 y.2)
    rw [List.length_map] at hq
    have HQ := Lib.hid (show (notesF (pre.map fun x => x.1.T)).length ≤ 2400 by omega)
    have HN := Lib.hid (show notesF ((pre ++ [x]).map fun x => x.1.T) = notesF (pre.map fun x => x.1.T) ++ x.1.T.notes by rw [List.map_append]; exact notesF_snoc _ _)
    obtain ⟨q, hqq⟩ : ∃ q, notesF (pre.map fun x => x.1.T) = q := ⟨_, rfl⟩
    rw [hqq] at o1 HQ HN
    obtain ⟨q2, hq2⟩ : ∃ q2, q ++ x.1.T.notes = q2 := ⟨_, rfl⟩
    rw [hq2] at HN
    have HQ2 := Lib.hid hq2
    clear hqq hq hq2
    have cV := b1.cell
    have K1 := Lib.hid b1
    have O1 := Lib.hid o1
    have HB1 := Lib.hid hB1
    have cT := TxA.c5 (RowC.of_blk bX)
    clear b1 o1 hB1 bX
    gi_wp2_with ((with_reducible refine at_appendIn 11 8 10 ?_); refine tyKy.wpListIn_appendIn rfl zcKy 32 zbKy (by omega) (.tmp 8) (.tmp 10) rfl w.heap.size v q rfl O1.out W.heap.size _ _ x.1.T.notes rfl HIN.out.notes (by have := HQ.out; have := HX.out; omega) HB1.out.size ?_; intro v' w1 own' grow'; rw [HQ2.out] at own'; obtain ⟨b2, b3, o3, k3, l3⟩ := boxed_appended K1.out (by decide) O1.out HB1.out.size (Nat.le_add_right _ _) own' grow'; have cF := b2.cell; have fF := b2.frozen; have K3 := Lib.hid b3; have O3 := Lib.hid o3; have F3 := Lib.hid k3; have L3 := Lib.hid l3; obtain ⟨A', c', hv'⟩ := own_shape own'; clear own' grow' b2 b3 o3 k3 l3; subst hv')
    refine ⟨F3.out.from _, L3.out, ⟨_, K3.out, ?_, trivial⟩, HB1.out.trans L3.out⟩
    rw [HN.out]
    exact O3.out
  case done =>
    rintro D ys W hD rfl ⟨⟨v, b1, o1, _⟩, hB1⟩ hK
    have cN := b1.cell
    have O1 := Lib.hid o1
    clear o1
    go_wp2
    refine ⟨by simp, .inl ⟨_, _, rfl, run_takeDeferred hK, ?_⟩⟩
    refine ⟨_, results_tmp rfl _ _ _, v, rfl, ?_, hB1.trans (belowK_b (w := w) (Nat.le_refl _) W D _ _ (by omega) hK rfl rfl)⟩
    rw [attach_T a.txs]
    exact ownsRow_putObj O1.out _ hK rfl
  case stop =>
    rintro D c pre W _ _ h _
    exact h.elim
end Go.Proofs.YthpnmmilioonhaaDoor
