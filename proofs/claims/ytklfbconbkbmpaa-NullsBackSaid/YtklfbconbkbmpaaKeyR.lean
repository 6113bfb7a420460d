/- The document's own order of two keys: the reference's Less. -/
import Derived.Test.YtklfbconbkbmpaaCellA
import Derived.Test.YtklfbconbkbmpaaGenA
namespace Go.Proofs.Ytklfbconbkbmpaa
open Go.RowKit Go.Sort
set_option maxRecDepth 20000 in
set_option maxHeartbeats 1000000 in
theorem refLess_any (a b : K32) (w : World) :
    Calls Try.prog 36 #[.agg (bytesA a.1), .agg (bytesA b.1)] w fun e w' => e = .returned (.bool (ltK a b)) ∧ Below w.heap.size w w' := by
  obtain ⟨r, hr⟩ : ∃ r, ltK a b = r := ⟨_, rfl⟩
  rw [hr]
  have HR := Lib.hid hr
  clear hr
  go_enter Try.func36, Try.ntmps36
  go_wp2_with fail
  have K0 := Lib.hid ((Blk.new w 29 (bytesA a.1)).alloc (.cells (bytesA b.1) 29))
  have K1 := Lib.hid (blk_new (w := w.alloc (.cells (bytesA a.1) 29)) 29 (bytesA b.1) (g := w.heap.size + 1) (by simp))
  have B0 : Below w.heap.size w ((w.alloc (.cells (bytesA a.1) 29)).alloc (.cells (bytesA b.1) 29)) := ((Below.refl _ _).alloc (Nat.le_refl _) _).alloc (by simp) _
  generalize (w.alloc (.cells (bytesA a.1) 29)).alloc (.cells (bytesA b.1) 29) = w1 at K0 K1 B0 ⊢
  have H := Lib.hid (And.intro K0.out (And.intro K1.out B0))
  clear K0 K1 B0
  have ha := Lib.hid a.2
  have hb := Lib.hid b.2
  go_loopw [5] (fun i wr => ∃ k : Nat, k ≤ 32 ∧ i = .int .i64 k ∧ Hid (a.1.take k = b.1.take k) ∧ Hid (Blk wr w.heap.size 29 (bytesA a.1) ∧ Blk wr (w.heap.size + 1) 29 (bytesA b.1) ∧ Below w.heap.size w wr)) (fun i _ => 32 - (intOf i).toNat)
  case atStart => exact ⟨0, by omega, rfl, Lib.hid (by simp), H⟩
  case round =>
    clear H
    obtain ⟨k, hk, rfl, HT, H⟩ := hrel
    by_cases hlt : k < 32
    · have ha' : k < a.1.length := by rw [ha.out]; exact hlt
      have hb' : k < b.1.length := by rw [hb.out]; exact hlt
      have cA : wr.cell? ⟨w.heap.size, k, none⟩ = some (.int .u8 (a.1[k].toNat : Int)) := by rw [H.out.1.cell k, bytesA_get _ _ ha']
      have cB : wr.cell? ⟨w.heap.size + 1, k, none⟩ = some (.int .u8 (b.1[k].toNat : Int)) := by rw [H.out.2.1.cell k, bytesA_get _ _ hb']
      by_cases he : a.1[k] = b.1[k]
      · have HE := Lib.hid he
        rw [← he] at cB
        clear he
        obtain ⟨x, hx⟩ : ∃ x, (a.1[k].toNat : Int) = x := ⟨_, rfl⟩
        rw [hx] at cA cB
        clear hx
        go_wp2_with fail
        go_quiet (fail)
        go_wp2_with fail
        go_roundw
        case rel =>
          refine ⟨k + 1, by omega, by go_num, Lib.hid ?_, Lib.hid ⟨H.out.1.drewN _, H.out.2.1.drewN _, below_drewN H.out.2.2 _⟩⟩
          rw [List.take_add_one, List.take_add_one, HT.out, List.getElem?_eq_getElem (by rw [ha.out]; exact hlt), List.getElem?_eq_getElem (by rw [hb.out]; exact hlt), HE.out]
        case measure => simp [intOf]; omega
      · have hl := ltK_at a b k hlt HT.out he
        have hne : ((a.1[k].toNat : Int) == (b.1[k].toNat : Int)) = false := by rw [byte_beq]; simpa using he
        clear he
        obtain ⟨x, hx⟩ : ∃ x, (a.1[k].toNat : Int) = x := ⟨_, rfl⟩
        obtain ⟨y, hy⟩ : ∃ y, (b.1[k].toNat : Int) = y := ⟨_, rfl⟩
        rw [hx] at cA hne hl
        rw [hy] at cB hne hl
        have HL := Lib.hid hl
        clear hl
        clear hx hy
        go_wp2_with fail
        go_quiet (fail)
        go_wp2_with fail
        have cA' : (wr.drewN nq).cell? ⟨w.heap.size, k, none⟩ = some (.int .u8 x) := cA
        have cB' : (wr.drewN nq).cell? ⟨w.heap.size + 1, k, none⟩ = some (.int .u8 y) := cB
        have B2 := below_drewN H.out.2.2 nq
        clear cA cB H
        generalize wr.drewN nq = wr2 at cA' cB' B2 ⊢
        go_quiet (fail)
        go_wp2_with fail
        go_ret
        exact ⟨by rw [← HR.out, HL.out]; rfl, below_drewN B2 _⟩
    · have hkm : k = 32 := by omega
      subst hkm
      go_wp2_with fail
      go_ret
      exact ⟨by rw [← HR.out, ltK_same a b HT.out]; rfl, H.out.2.2⟩
end Go.Proofs.Ytklfbconbkbmpaa
