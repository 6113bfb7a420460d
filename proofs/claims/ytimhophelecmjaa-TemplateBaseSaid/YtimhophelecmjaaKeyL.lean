/- slices.Index at keys, the reference's Has, keys.place (made by genFind.py). -/
import Derived.Test.YtimhophelecmjaaKeyH
namespace Go.Proofs.Ytimhophelecmjaa
open Go.RowKit Go.Sort
theorem firstI_mem (k : K32) (l : List K32) : firstI (fun x => decide (x = k)) l = if k ∈ l then (l.idxOf k : Int) else -1 := by
  unfold firstI
  by_cases h : k ∈ l
  · rw [if_pos h, if_pos (List.any_eq_true.2 ⟨k, h, by simp⟩)]
    have e : (fun x : K32 => decide (x = k)) = fun x => x == k := by funext x; rw [Bool.eq_iff_iff, decide_eq_true_iff, beq_iff_eq]
    rw [e]
    rfl
  · rw [if_neg h, if_neg]
    intro h1
    obtain ⟨x, hx, he⟩ := List.any_eq_true.1 h1
    rw [of_decide_eq_true he] at hx
    exact h hx
theorem has_at (k : K32) (l : List K32) (j : Nat) (hj : j < l.length) (h : l[j] = k) : decide (k ∈ l) = true := decide_eq_true (h ▸ List.getElem_mem hj)
theorem has_none (k : K32) (l : List K32) (h : ∀ q (h : q < l.length), decide (l[q] = k) = false) : decide (k ∈ l) = false := decide_eq_false fun hm => by
  obtain ⟨i, hi, e⟩ := List.getElem_of_mem hm
  exact of_decide_eq_false (h i hi) e
set_option maxRecDepth 20000 in
set_option maxHeartbeats 1000000 in
theorem refHas_any (A : Option Addr) (c : Nat) (l : List K32) (k : K32) (B : Nat) (w : World) (hl : l.length ≤ 1000000) (hB : B ≤ w.heap.size) (h : RowIn encK 32 w B A c l) :
    Calls Try.prog 23 #[.slice A l.length c, .agg (bytesA k.1)] w fun e w' => e = .returned (.bool (decide (k ∈ l))) ∧ Below w.heap.size w w' := by
  obtain ⟨r, hr⟩ : ∃ r, decide (k ∈ l) = r := ⟨_, rfl⟩
  rw [hr]
  have HR := Lib.hid hr
  clear hr
  have B1 : Below w.heap.size w (w.alloc (.cells (bytesA k.1) 24)) := (Below.refl _ _).alloc (Nat.le_refl _) _
  have K3 := Lib.hid (Blk.new w 24 (bytesA k.1))
  have HH := Lib.hid (h.below (B1.mono hB))
  clear h
  have HB1 := Lib.hid B1
  clear B1
  obtain ⟨n, hn⟩ : ∃ n, l.length = n := ⟨_, rfl⟩
  have HN := Lib.hid hn
  rw [hn] at hl ⊢
  clear hn
  go_enter Try.func23, Try.ntmps23
  go_wp2_with fail
  go_loopw [5] (fun i wr => ∃ j : Nat, i = .int .i64 j ∧ j ≤ n ∧ Hid (∀ q (h : q < l.length), q < j → decide (l[q] = k) = false) ∧ Hid (Below w.heap.size w wr ∧ Blk wr w.heap.size 24 (bytesA k.1) ∧ RowIn encK 32 wr B A c l ∧ w.heap.size < wr.heap.size)) (fun i _ => n - (intOf i).toNat)
  case atStart => exact ⟨0, rfl, by omega, Lib.hid (fun q h1 h2 => absurd h2 (Nat.not_lt_zero _)), Lib.hid ⟨HB1.out, K3.out, HH.out, by simp⟩⟩
  case round =>
    clear K3 HB1 HH
    obtain ⟨j, rfl, hj, HI, HW⟩ := hrel
    by_cases hlt : j < n
    · have hj' : j < l.length := by rw [HN.out]; exact hlt
      obtain ⟨g, o, rfl, hg, hc⟩ := HW.out.2.2.1.cells (by intro e; subst e; simp at hj')
      have HX := Lib.hid (hc.at encK_len hj')
      clear hc
      have hgw : g < wr.heap.size := by have := HW.out.2.2.2; omega
      have K3 := Lib.hid HW.out.2.1
      obtain ⟨x, hx⟩ : ∃ x, l[j]'hj' = x := ⟨_, rfl⟩
      rw [hx] at HX
      have HXE := Lib.hid hx
      clear hx
      have d1 : (0 : Int) ≤ (j : Int) := by omega
      have d2 : (j : Int) < (n : Int) := by omega
      obtain ⟨b, hb⟩ : ∃ b, decide (x = k) = b := ⟨_, rfl⟩
      have HE := Lib.hid (eqK_is hb)
      have HBX := Lib.hid hb
      clear hb
      cases b
      · go_wp2_with fail
        refine wp_region_from (by kernel_rfl) (by kernel_rfl) ?_
        repeat (first
          | ((with_reducible refine at_qload 14 ?_); refine tyK.wpQuiet_load (by rfl) (.tmp 14) rfl g _ rfl x (fun W hC => (HX.out.below hC.below hgw).cast (by omega)) ?_; simp only [encK_bytes, Act.put, List.setIfInBounds_toArray, List.set_cons_succ, List.set_cons_zero])
          | ((with_reducible refine at_qload 3 ?_); refine wpQuiet_load_row (by rfl) 24 (.tmp 3) rfl w.heap.size rfl 24 (bytesA k.1) _ (fun _ hC => below_blk hC.below K3.out K3.out.lt) Try.underlying24 rfl (szK k) ?_; simp only [Act.put, List.setIfInBounds_toArray, List.set_cons_succ, List.set_cons_zero])
          | ((with_reducible refine at_qeql 15 16 ?_); refine wpQuiet_eql_row (by rfl) 24 _ (.tmp 15) (.tmp 16) rfl (bytesA x.1) (bytesA k.1) rfl rfl (by kernel_rfl) false HE.out ?_; simp only [Act.put, List.setIfInBounds_toArray, List.set_cons_succ, List.set_cons_zero])
          | (go_big_quiet_want; go_big_quiet_op; refine ⟨_, fun _ _ => by with_reducible rfl, ?_⟩; go_big_quiet_on)
          | go_big_quiet_step (fail))
        refine wpQuiet_nil ?_
        intro w9 hC
        go_wp2_with fail
        go_roundw
        case rel =>
          refine ⟨j + 1, by go_num, by omega, Lib.hid (fun q h1 h2 => ?_), Lib.hid ⟨HW.out.1.trans (hC.below.mono HW.out.1.size), below_blk hC.below HW.out.2.1 HW.out.2.1.lt, HW.out.2.2.1.below (hC.below.mono (by have := HW.out.2.2.2; omega)), Nat.lt_of_lt_of_le HW.out.2.2.2 hC.below.size⟩⟩
          by_cases e : q = j
          · subst e; rw [HXE.out]; exact decide_eq_false (fun e => of_decide_eq_false HBX.out (e))
          · exact HI.out q h1 (by omega)
        case measure => simp [intOf]; omega
      · go_wp2_with fail
        refine wp_region_from (by kernel_rfl) (by kernel_rfl) ?_
        repeat (first
          | ((with_reducible refine at_qload 14 ?_); refine tyK.wpQuiet_load (by rfl) (.tmp 14) rfl g _ rfl x (fun W hC => (HX.out.below hC.below hgw).cast (by omega)) ?_; simp only [encK_bytes, Act.put, List.setIfInBounds_toArray, List.set_cons_succ, List.set_cons_zero])
          | ((with_reducible refine at_qload 3 ?_); refine wpQuiet_load_row (by rfl) 24 (.tmp 3) rfl w.heap.size rfl 24 (bytesA k.1) _ (fun _ hC => below_blk hC.below K3.out K3.out.lt) Try.underlying24 rfl (szK k) ?_; simp only [Act.put, List.setIfInBounds_toArray, List.set_cons_succ, List.set_cons_zero])
          | ((with_reducible refine at_qeql 15 16 ?_); refine wpQuiet_eql_row (by rfl) 24 _ (.tmp 15) (.tmp 16) rfl (bytesA x.1) (bytesA k.1) rfl rfl (by kernel_rfl) true HE.out ?_; simp only [Act.put, List.setIfInBounds_toArray, List.set_cons_succ, List.set_cons_zero])
          | (go_big_quiet_want; go_big_quiet_op; refine ⟨_, fun _ _ => by with_reducible rfl, ?_⟩; go_big_quiet_on)
          | go_big_quiet_step (fail))
        refine wpQuiet_nil ?_
        intro w9 hC
        go_wp2_with fail
        go_ret
        refine ⟨?_, HW.out.1.trans (hC.below.mono HW.out.1.size)⟩
        have hxk : x = k := of_decide_eq_true HBX.out
        rw [← HR.out, has_at k l j hj' (HXE.out.trans hxk)]
        rfl
    · go_wp2_with fail
      go_ret
      refine ⟨?_, HW.out.1⟩
      rw [← HR.out, has_none k l (fun q hq => HI.out q hq (by have := HN.out; omega))]
      rfl
theorem placeI_find (k : K32) (l : List K32) (h : k ∉ l) : firstI (fun x => ltK k x) l = if placeI k l < l.length then (placeI k l : Int) else -1 := by
  unfold firstI placeI
  rw [if_neg h]
  by_cases h1 : l.any (fun x => ltK k x) = true
  · rw [if_pos h1, if_pos]
    obtain ⟨x, hx, he⟩ := List.any_eq_true.1 h1
    exact List.findIdx_lt_length_of_exists ⟨x, hx, he⟩
  · rw [if_neg h1, if_neg]
    intro h2
    apply h1
    have := List.findIdx_getElem (w := h2)
    exact List.any_eq_true.2 ⟨_, List.getElem_mem h2, this⟩
end Go.Proofs.Ytimhophelecmjaa
