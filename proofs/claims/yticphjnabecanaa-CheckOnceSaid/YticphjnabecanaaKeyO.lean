/- keys.order and Less: two keys compared. -/
import Derived.Test.YticphjnabecanaaGenA
import Derived.Lib.BytesEntry
import Derived.Shelf.SlSorted.Search
namespace Go.Proofs.Yticphjnabecanaa
open Go.RowKit Go.Sort
/-- w' is w after some draws, with blocks laid behind -/
def Gr (w w' : World) : Prop := ∃ q os, w' = grow (w.drewN q) os
theorem Gr.refl (w : World) : Gr w w := ⟨0, #[], by rw [grow_empty]; rfl⟩
theorem Gr.trans {a b c : World} (h : Gr a b) (k : Gr b c) : Gr a c := by
  obtain ⟨q, os, rfl⟩ := h
  obtain ⟨q', os', rfl⟩ := k
  exact ⟨q + q', os ++ os', by show grow (grow ((a.drewN q).drewN q') os) os' = _; rw [grow_grow, World.drewN_drewN]⟩
theorem Gr.alloc {a b : World} (h : Gr a b) (o : Obj) : Gr a (b.alloc o) := h.trans ⟨0, #[o], by rw [alloc_eq_grow]; rfl⟩
theorem Gr.drewN {a b : World} (h : Gr a b) (n : Nat) : Gr a (b.drewN n) := h.trans ⟨n, #[], by rw [grow_empty]⟩
theorem Gr.drew {a b : World} (h : Gr a b) : Gr a b.drew := h.drewN 1
theorem Gr.below {w w' : World} (h : Gr w w') : Below w.heap.size w w' := by
  obtain ⟨q, os, rfl⟩ := h
  exact below_grown_sl _ w q os (Nat.le_refl _)
theorem Gr.size {w w' : World} (h : Gr w w') : w.heap.size ≤ w'.heap.size := h.below.size
theorem wp_region_gr {P : Program} {id : Nat} {Q : Exit → Act → World → Prop} {a : Act} {w : World} {l : List Oper} (hm : P.follows .mixedOrders = true) (hB : Region.lexB .any l.toArray = true)
    (h : wpQuiet P l.toArray (Gr w) (fun a' => ∀ w', Gr w w' → Q .normal a' w') l a) : (Code.region id l.toArray true).wp P Q a w :=
  wp_region_quiet (C := Gr w) hm hB (Gr.refl w).drew (by simpa using h)
theorem szK (a : K32) : (Try.prog.info? 26).map (·.size) = some (bytesA a.1).size := by rw [bytesA_size, a.2]; kernel_rfl
theorem run_loadBytes_blk {P : Program} {w : World} {g : Nat} {t : TypeId} (a : K32) (h : Blk w g t (bytesA a.1)) :
    (Extern.Bytes.bytesOf (.slice (some ⟨g, 0, none⟩) 32 32)).run P w = .ok ⟨a.1.toArray⟩ w := by
  have hc : ∀ j x, (a.1.map fun b => (b.toNat : Int))[j]? = some x → w.cell? ((⟨g, 0, none⟩ : Addr).add j) = some (.int .u8 x) := by
    intro j x hj
    have e : (⟨g, 0, none⟩ : Addr).add j = ⟨g, j, none⟩ := by unfold Addr.add; split <;> simp_all
    rw [e, h.cell]
    simp only [bytesA, List.getElem?_toArray, List.getElem?_map] at hj ⊢
    cases hq : a.1[j]? with
    | none => simp [hq] at hj
    | some b => simp [hq] at hj; simp [hj]
  have hl : (a.1.map fun b => (b.toNat : Int)).length = 32 := by simp [a.2]
  have hr := Lib.run_loadBytesX (P := P) (w := w) (a.1.map fun b => (b.toNat : Int)) ⟨g, 0, none⟩ ByteArray.empty hc
  rw [hl] at hr
  have hb : Lib.bytesOf (a.1.map fun b => (b.toNat : Int)) = a.1 := by
    unfold Lib.bytesOf
    rw [List.map_map]
    conv => rhs; rw [← List.map_id a.1]
    apply List.map_congr_left
    intro b _
    simp
  rw [hb] at hr
  have he : (⟨ByteArray.empty.data ++ a.1.toArray⟩ : ByteArray) = ⟨a.1.toArray⟩ := by
    apply ByteArray.ext
    show (#[] : Array UInt8) ++ a.1.toArray = a.1.toArray
    simp
  rw [he] at hr
  exact hr
set_option maxRecDepth 20000 in
theorem bytesCompare (a b : K32) (g1 g2 : Nat) (t1 t2 : TypeId) (w : World) (h1 : Blk w g1 t1 (bytesA a.1)) (h2 : Blk w g2 t2 (bytesA b.1)) :
    Calls Try.prog 83 #[.slice (some ⟨g1, 0, none⟩) 32 32, .slice (some ⟨g2, 0, none⟩) 32 32] w fun e w' => e = .returned (.int .i64 (cmpK a b)) ∧ w' = w := by
  have hr : (Extern.BytealgCompare.compare #[.slice (some ⟨g1, 0, none⟩) 32 32, .slice (some ⟨g2, 0, none⟩) 32 32]).run Try.prog w = .ok (.int .i64 (cmpK a b)) w := by
    change Sem.run _ (do pure (goInt (Extern.BytealgCompare.cmp (← Extern.Bytes.bytesOf (.slice (some ⟨g1, 0, none⟩) 32 32)) (← Extern.Bytes.bytesOf (.slice (some ⟨g2, 0, none⟩) 32 32))))) w = _
    rw [Sem.run_bind, run_loadBytes_blk a h1]
    simp only [Result.andThen_ok]
    rw [Sem.run_bind, run_loadBytes_blk b h2]
    simp only [Result.andThen_ok, Sem.run_pure, Lib.cmp_eq]
    rfl
  clear h1 h2
  go_enter Try.func83, Try.ntmps83
  go_wp2
  rw [run_callFunc_extern Try.func97 (by kernel_rfl) (by kernel_rfl) (by kernel_rfl) (e := Extern.BytealgCompare.compare) (by kernel_rfl), hr]
  simp only [Result.andThen]
  rw [Oper.upon_value]
  go_wp2
  go_ret
  exact ⟨rfl, rfl⟩
theorem order_any (a b : K32) (w : World) :
    Calls Try.prog 69 #[.agg (bytesA a.1), .agg (bytesA b.1)] w fun e w' => e = .returned (.int .i64 (cmpK a b)) ∧ Gr w w' := by
  have h0 := szK a
  go_enter Try.func69, Try.ntmps69
  go_wp2_with fail
  have K0 := Lib.hid ((Blk.new w 26 (bytesA a.1)).alloc (.cells (bytesA b.1) 26))
  have K1 := Lib.hid (blk_new (w := w.alloc (.cells (bytesA a.1) 26)) 26 (bytesA b.1) (g := w.heap.size + 1) (by simp))
  have G0 : Gr w ((w.alloc (.cells (bytesA a.1) 26)).alloc (.cells (bytesA b.1) 26)) := ((Gr.refl w).alloc _).alloc _
  generalize (w.alloc (.cells (bytesA a.1) 26)).alloc (.cells (bytesA b.1) 26) = w1 at K0 K1 G0 ⊢
  refine wp_region_gr (by kernel_rfl) (by kernel_rfl) ?_
  repeat (first
    | (go_big_quiet_want; go_big_quiet_op; refine ⟨_, fun _ _ => by with_reducible rfl, ?_⟩; go_big_quiet_on)
    | go_big_quiet_step ((intro hC; go_at_call 83; with_reducible exact (bytesCompare a b _ _ 26 26 _ (below_blk hC.below K0.out K0.out.lt) (below_blk hC.below K1.out K1.out.lt)).mono fun _ _ h => ⟨h.1, h.2 ▸ hC⟩)))
  refine wpQuiet_nil ?_
  intro w9 hC
  go_wp2_with fail
  go_ret
  exact ⟨rfl, G0.trans hC⟩
theorem less_any (a b : K32) (w : World) :
    Calls Try.prog 73 #[.agg (bytesA a.1), .agg (bytesA b.1)] w fun e w' => e = .returned (.bool (ltK a b)) ∧ Gr w w' := by
  have G0 : Gr w ((w.alloc (.cells (bytesA a.1) 26)).alloc (.cells (bytesA b.1) 26)) := ((Gr.refl w).alloc _).alloc _
  go_enter Try.func73, Try.ntmps73
  go_wp2_with (first
    | ((with_reducible refine at_load 2 ?_); refine wpList_load_row rfl 26 (.tmp 2) rfl w.heap.size rfl 26 (bytesA a.1) (0, 0) _ ((Blk.new w 26 (bytesA a.1)).alloc _) Try.underlying26 rfl (szK a) ?_)
    | ((with_reducible refine at_load 3 ?_); refine wpList_load_row rfl 26 (.tmp 3) rfl (w.heap.size + 1) rfl 26 (bytesA b.1) (0, 0) _ (blk_new (w := w.alloc (.cells (bytesA a.1) 26)) 26 (bytesA b.1) (g := w.heap.size + 1) (by simp)) Try.underlying26 rfl (szK b) ?_)
    | (go_at_call 69; refine (order_any a b _).mono ?_; rintro e w2 ⟨rfl, G1⟩; have G2 := G0.trans G1; clear G0 G1))
  go_ret
  exact ⟨rfl, G2⟩
end Go.Proofs.Yticphjnabecanaa
