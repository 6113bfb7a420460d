/- keys.order and Less: two keys compared. -/
import Derived.Test.YtimhophelecmjaaGenA
import Derived.Lib.BytesEntry
import Derived.Shelf.SlSorted.Search
namespace Go.Proofs.Ytimhophelecmjaa
open Go.RowKit Go.Sort
/-- w' is w after some draws, with blocks laid behind -/
def Gr (w w' : World) : Prop := ∃ q os, w' = grow (w.drewN q) os
theorem Gr.refl (w : World) : Gr w w := ⟨0, #[], by rw [grow_empty]; rfl⟩
theorem Gr.trans {a b c : World} (h : Gr a b) (k : Gr b c) : Gr a c := by
  obtain ⟨q, os, rfl⟩ := h
  obtain ⟨q', os', rfl⟩ := k
  exact ⟨q + q', os ++ os', by show grow (grow ((a.drewN q).drewN q') os) os' = _; rw [grow_grow, World.drewN_drewN]⟩
theorem Gr.alloc {a b : World} (h : Gr a b) (o : Obj) : Gr a (b.alloc o) := h.trans ⟨0, #[o], by rw [alloc_eq_grow]; rfl⟩
theorem Gr.drewN {a b : World} (h : Gr a b) (n : Nat) : Gr a (b.drewN n) := h.trans ⟨n, #[], by rw [grow_empty]⟩
theorem Gr.drew {a b : World} (h : Gr a b) : Gr a b.drew := h.drewN 1
theorem Gr.below {w w' : World} (h : Gr w w') : Below w.heap.size w w' := by
  obtain ⟨q, os, rfl⟩ := h
  exact below_grown_sl _ w q os (Nat.le_refl _)
theorem Gr.size {w w' : World} (h : Gr w w') : w.heap.size ≤ w'.heap.size := h.below.size
theorem wp_region_gr {P : Program} {id : Nat} {Q : Exit → Act → World → Prop} {a : Act} {w : World} {l : List Oper} (hm : P.follows .mixedOrders = true) (hB : Region.lexB .any l.toArray = true)
    (h : wpQuiet P l.toArray (Gr w) (fun a' => ∀ w', Gr w w' → Q .normal a' w') l a) : (Code.region id l.toArray true).wp P Q a w :=
  wp_region_quiet (C := Gr w) hm hB (Gr.refl w).drew (by simpa using h)
theorem szK (a : K32) : (Try.prog.info? 24).map (·.size) = some (bytesA a.1).size := by rw [bytesA_size, a.2]; kernel_rfl
theorem run_loadBytes_blk {P : Program} {w : World} {g : Nat} {t : TypeId} (a : K32) (h : Blk w g t (bytesA a.1)) :
    (Extern.Bytes.bytesOf (.slice (some ⟨g, 0, none⟩) 32 32)).run P w = .ok ⟨a.1.toArray⟩ w := by
  have hc : ∀ j x, (a.1.map fun b => (b.toNat : Int))[j]? = some x → w.cell? ((⟨g, 0, none⟩ : Addr).add j) = some (.int .u8 x) := by
    intro j x hj
    have e : (⟨g, 0, none⟩ : Addr).add j = ⟨g, j, none⟩ := by unfold Addr.add; split <;> simp_all
    rw [e, h.cell]
    simp only [bytesA, List.getElem?_toArray, List.getElem?_map] at hj ⊢
    cases hq : a.1[j]? with
    | none => simp [hq] at hj
    | some b => simp [hq] at hj; simp [hj]
  have hl : (a.1.map fun b => (b.toNat : Int)).length = 32 := by simp [a.2]
  have hr := Lib.run_loadBytesX (P := P) (w := w) (a.1.map fun b => (b.toNat : Int)) ⟨g, 0, none⟩ ByteArray.empty hc
  rw [hl] at hr
  have hb : Lib.bytesOf (a.1.map fun b => (b.toNat : Int)) = a.1 := by
    unfold Lib.bytesOf
    rw [List.map_map]
    conv => rhs; rw [← List.map_id a.1]
    apply List.map_congr_left
    intro b _
    simp
  rw [hb] at hr
  have he : (⟨ByteArray.empty.data ++ a.1.toArray⟩ : ByteArray) = ⟨a.1.toArray⟩ := by
    apply ByteArray.ext
    show (#[] : Array UInt8) ++ a.1.toArray = a.1.toArray
    simp
  rw [he] at hr
  exact hr
end Go.Proofs.Ytimhophelecmjaa
