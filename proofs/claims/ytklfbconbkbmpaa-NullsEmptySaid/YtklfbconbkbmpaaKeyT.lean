/- The reference's Same and Has. -/
import Derived.Test.YtklfbconbkbmpaaKeyS
import Derived.Test.YtklfbconbkbmpaaKeyR
import Derived.Test.YtklfbconbkbmpaaGenA
namespace Go.Proofs.Ytklfbconbkbmpaa
open Go.RowKit Go.Sort
theorem eqK_run (x y : K32) (V : World) : (Op.equal 29 (.agg (bytesA x.1)) (.agg (bytesA y.1))).run Try.prog V = .ok (decide (x = y)) V := by
  rw [show (decide (x = y)) = decide (x.1 = y.1) by rw [decide_eq_decide]; exact Subtype.ext_iff]
  exact run_eq_bytes V Try.underlying29 Try.underlying5 (by kernel_rfl) x.1 y.1 x.2 y.2
set_option maxRecDepth 20000 in
set_option maxHeartbeats 1000000 in
theorem same_any (A : Option Addr) (c : Nat) (l : List K32) (A' : Option Addr) (c' : Nat) (m : List K32) (w : World) (_hl : l.length ≤ 1000000) (hm : m.length ≤ 1000000) (h : RowIn encK 32 w w.heap.size A c l) (h' : RowIn encK 32 w w.heap.size A' c' m) :
    Calls Try.prog 12 #[.slice A l.length c, .slice A' m.length c'] w fun e w' => e = .returned (.bool (decide (l = m))) ∧ Below w.heap.size w w' := by
  obtain ⟨r, hr⟩ : ∃ r, decide (l = m) = r := ⟨_, rfl⟩
  rw [hr]
  have HR := Lib.hid hr
  clear hr
  have HH := Lib.hid h
  have HH' := Lib.hid h'
  clear h h'
  by_cases hlm : l.length = m.length
  · obtain ⟨n, hn⟩ : ∃ n, m.length = n := ⟨_, rfl⟩
    have HN := Lib.hid (And.intro (hlm.trans hn) hn)
    rw [hlm, hn]
    rw [hn] at hm
    clear hlm hn _hl
    go_enter Try.func12, Try.ntmps12
    go_wp2_with fail
    go_loopw [5] (fun i wr => ∃ k : Nat, i = .int .i64 k ∧ k ≤ n ∧ Hid (l.take k = m.take k) ∧ Hid (Below w.heap.size w wr)) (fun i _ => n - (intOf i).toNat)
    case atStart => exact ⟨0, rfl, by omega, Lib.hid (by simp), Lib.hid (Below.refl _ _)⟩
    case round =>
      obtain ⟨k, rfl, hk, HI, HW⟩ := hrel
      by_cases hlt : k < n
      · have hk1 : k < l.length := by rw [HN.out.1]; exact hlt
        have hk2 : k < m.length := by rw [HN.out.2]; exact hlt
        obtain ⟨g, o, rfl, hg, hc⟩ := HH.out.cells (by intro e; subst e; simp at hk1)
        obtain ⟨g', o', rfl, hg', hc'⟩ := HH'.out.cells (by intro e; subst e; simp at hk2)
        have HX := Lib.hid ((hc.below HW.out hg).at encK_len hk1)
        have HY := Lib.hid ((hc'.below HW.out hg').at encK_len hk2)
        clear hc hc'
        have hgw : g < wr.heap.size := by have := HW.out.size; omega
        have hgw' : g' < wr.heap.size := by have := HW.out.size; omega
        obtain ⟨x, hx⟩ : ∃ x, l[k]'hk1 = x := ⟨_, rfl⟩
        obtain ⟨y, hy⟩ : ∃ y, m[k]'hk2 = y := ⟨_, rfl⟩
        rw [hx] at HX
        rw [hy] at HY
        have HXY := Lib.hid (And.intro hx hy)
        clear hx hy
        have HE := Lib.hid (eqK_run x y)
        have d1 : (0 : Int) ≤ (k : Int) := by omega
        have d2 : (k : Int) < (n : Int) := by omega
        obtain ⟨b, hb⟩ : ∃ b, decide (x = y) = b := ⟨_, rfl⟩
        rw [hb] at HE
        have HB := Lib.hid hb
        clear hb
        cases b
        · go_wp2_with fail
          refine wp_region_from (by kernel_rfl) (by kernel_rfl) ?_
          repeat (first
            | ((with_reducible refine at_qload 19 ?_); refine tyK.wpQuiet_load (by rfl) (.tmp 19) rfl g _ rfl x (fun W hC => (HX.out.below hC.below hgw).cast (by omega)) ?_; simp only [encK_bytes, Act.put, List.setIfInBounds_toArray, List.set_cons_succ, List.set_cons_zero])
            | ((with_reducible refine at_qload 23 ?_); refine tyK.wpQuiet_load (by rfl) (.tmp 23) rfl g' _ rfl y (fun W hC => (HY.out.below hC.below hgw').cast (by omega)) ?_; simp only [encK_bytes, Act.put, List.setIfInBounds_toArray, List.set_cons_succ, List.set_cons_zero])
            | ((with_reducible refine at_qneq 20 24 ?_); refine wpQuiet_neq_row (by rfl) 29 _ (.tmp 20) (.tmp 24) rfl (bytesA x.1) (bytesA y.1) rfl rfl (by kernel_rfl) false HE.out ?_; simp only [Act.put, List.setIfInBounds_toArray, List.set_cons_succ, List.set_cons_zero])
            | (go_big_quiet_want; go_big_quiet_op; refine ⟨_, fun _ _ => by with_reducible rfl, ?_⟩; go_big_quiet_on)
            | go_big_quiet_step (fail))
          refine wpQuiet_nil ?_
          intro w9 hC
          go_wp2_with fail
          go_ret
          refine ⟨?_, HW.out.trans (hC.below.mono HW.out.size)⟩
          have hne : l ≠ m := fun e => by
            have h1 : l[k]'hk1 = m[k]'hk2 := by simp [e]
            rw [HXY.out.1, HXY.out.2] at h1
            exact absurd h1 (of_decide_eq_false HB.out)
          rw [← HR.out, decide_eq_false hne]
          rfl
        · go_wp2_with fail
          refine wp_region_from (by kernel_rfl) (by kernel_rfl) ?_
          repeat (first
            | ((with_reducible refine at_qload 19 ?_); refine tyK.wpQuiet_load (by rfl) (.tmp 19) rfl g _ rfl x (fun W hC => (HX.out.below hC.below hgw).cast (by omega)) ?_; simp only [encK_bytes, Act.put, List.setIfInBounds_toArray, List.set_cons_succ, List.set_cons_zero])
            | ((with_reducible refine at_qload 23 ?_); refine tyK.wpQuiet_load (by rfl) (.tmp 23) rfl g' _ rfl y (fun W hC => (HY.out.below hC.below hgw').cast (by omega)) ?_; simp only [encK_bytes, Act.put, List.setIfInBounds_toArray, List.set_cons_succ, List.set_cons_zero])
            | ((with_reducible refine at_qneq 20 24 ?_); refine wpQuiet_neq_row (by rfl) 29 _ (.tmp 20) (.tmp 24) rfl (bytesA x.1) (bytesA y.1) rfl rfl (by kernel_rfl) true HE.out ?_; simp only [Act.put, List.setIfInBounds_toArray, List.set_cons_succ, List.set_cons_zero])
            | (go_big_quiet_want; go_big_quiet_op; refine ⟨_, fun _ _ => by with_reducible rfl, ?_⟩; go_big_quiet_on)
            | go_big_quiet_step (fail))
          refine wpQuiet_nil ?_
          intro w9 hC
          go_wp2_with fail
          go_roundw
          case rel =>
            refine ⟨k + 1, by go_num, by omega, Lib.hid ?_, Lib.hid (HW.out.trans (hC.below.mono HW.out.size))⟩
            rw [List.take_add_one, List.take_add_one, HI.out, List.getElem?_eq_getElem hk1, List.getElem?_eq_getElem hk2, HXY.out.1, HXY.out.2, of_decide_eq_true HB.out]
          case measure => simp [intOf]; omega
      · go_wp2_with fail
        go_ret
        refine ⟨?_, HW.out⟩
        have he : l = m := by
          have := HI.out
          rwa [List.take_of_length_le (by have := HN.out.1; omega), List.take_of_length_le (by have := HN.out.2; omega)] at this
        rw [← HR.out, decide_eq_true he]
        rfl
  · obtain ⟨n, hn⟩ : ∃ n, l.length = n := ⟨_, rfl⟩
    obtain ⟨n', hn'⟩ : ∃ n, m.length = n := ⟨_, rfl⟩
    rw [hn, hn']
    rw [hn] at _hl hlm
    rw [hn'] at hm hlm
    have hne : ((n : Int) == (n' : Int)) = false := beq_eq_false_iff_ne.mpr (by omega)
    have HNE := Lib.hid (show l ≠ m from fun e => hlm (by rw [← hn, ← hn', e]))
    clear hn hn' hlm
    go_enter Try.func12, Try.ntmps12
    go_wp2_with fail
    go_ret
    refine ⟨?_, Below.refl _ _⟩
    rw [← HR.out, decide_eq_false HNE.out]
    rfl
end Go.Proofs.Ytklfbconbkbmpaa
