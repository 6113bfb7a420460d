/- slices.Index at keys, the reference's Has, keys.place (made by genFind.py). -/
import Derived.Test.YtklfbconbkbmpaaKeyH
namespace Go.Proofs.Ytklfbconbkbmpaa
open Go.RowKit Go.Sort
theorem firstI_mem (k : K32) (l : List K32) : firstI (fun x => decide (x = k)) l = if k ∈ l then (l.idxOf k : Int) else -1 := by
  unfold firstI
  by_cases h : k ∈ l
  · rw [if_pos h, if_pos (List.any_eq_true.2 ⟨k, h, by simp⟩)]
    have e : (fun x : K32 => decide (x = k)) = fun x => x == k := by funext x; rw [Bool.eq_iff_iff, decide_eq_true_iff, beq_iff_eq]
    rw [e]
    rfl
  · rw [if_neg h, if_neg]
    intro h1
    obtain ⟨x, hx, he⟩ := List.any_eq_true.1 h1
    rw [of_decide_eq_true he] at hx
    exact h hx
theorem has_at (k : K32) (l : List K32) (j : Nat) (hj : j < l.length) (h : l[j] = k) : decide (k ∈ l) = true := decide_eq_true (h ▸ List.getElem_mem hj)
theorem has_none (k : K32) (l : List K32) (h : ∀ q (h : q < l.length), decide (l[q] = k) = false) : decide (k ∈ l) = false := decide_eq_false fun hm => by
  obtain ⟨i, hi, e⟩ := List.getElem_of_mem hm
  exact of_decide_eq_false (h i hi) e
set_option maxRecDepth 20000 in
set_option maxHeartbeats 1000000 in
theorem index_any (A : Option Addr) (c : Nat) (l : List K32) (k : K32) (B : Nat) (w : World) (hl : l.length ≤ 1000000) (hB : B ≤ w.heap.size) (h : RowIn encK 32 w B A c l) :
    Calls Try.prog 39 #[.slice A l.length c, .agg (bytesA k.1)] w fun e w' => e = .returned (.int .i64 (firstI (fun x => decide (x = k)) l)) ∧ Below w.heap.size w w' := by
  obtain ⟨r, hr⟩ : ∃ r, firstI (fun x => decide (x = k)) l = r := ⟨_, rfl⟩
  rw [hr]
  have HR := Lib.hid hr
  clear hr
  have B1 : Below w.heap.size w (w.alloc (.cells (bytesA k.1) 29)) := (Below.refl _ _).alloc (Nat.le_refl _) _
  have K3 := Lib.hid (Blk.new w 29 (bytesA k.1))
  have HH := Lib.hid (h.below (B1.mono hB))
  clear h
  have HB1 := Lib.hid B1
  clear B1
  obtain ⟨n, hn⟩ : ∃ n, l.length = n := ⟨_, rfl⟩
  have HN := Lib.hid hn
  rw [hn] at hl ⊢
  clear hn
  go_enter Try.func39, Try.ntmps39
  go_wp2_with fail
  go_loopw [5, 8] (fun _ i wr => ∃ j : Nat, i = .int .i64 j ∧ j ≤ n ∧ Hid (∀ q (h : q < l.length), q < j → decide (l[q] = k) = false) ∧ Hid (Below w.heap.size w wr ∧ Blk wr w.heap.size 29 (bytesA k.1) ∧ RowIn encK 32 wr B A c l ∧ w.heap.size < wr.heap.size)) (fun _ i _ => n - (intOf i).toNat)
  case atStart => exact ⟨0, rfl, by omega, Lib.hid (fun q h1 h2 => absurd h2 (Nat.not_lt_zero _)), Lib.hid ⟨HB1.out, K3.out, HH.out, by simp⟩⟩
  case round =>
    clear K3 HB1 HH
    obtain ⟨j, rfl, hj, HI, HW⟩ := hrel
    by_cases hlt : j < n
    · have hj' : j < l.length := by rw [HN.out]; exact hlt
      obtain ⟨g, o, rfl, hg, hc⟩ := HW.out.2.2.1.cells (by intro e; subst e; simp at hj')
      have HX := Lib.hid (hc.at encK_len hj')
      clear hc
      have hgw : g < wr.heap.size := by have := HW.out.2.2.2; omega
      have K3 := Lib.hid HW.out.2.1
      obtain ⟨x, hx⟩ : ∃ x, l[j]'hj' = x := ⟨_, rfl⟩
      rw [hx] at HX
      have HXE := Lib.hid hx
      clear hx
      have d1 : (0 : Int) ≤ (j : Int) := by omega
      have d2 : (j : Int) < (n : Int) := by omega
      obtain ⟨b, hb⟩ : ∃ b, decide (k = x) = b := ⟨_, rfl⟩
      have HE := Lib.hid (eqK_is hb)
      have HBX := Lib.hid hb
      clear hb
      cases b
      · go_wp2_with fail
        refine wp_region_from (by kernel_rfl) (by kernel_rfl) ?_
        repeat (first
          | ((with_reducible refine at_qload 14 ?_); refine tyK.wpQuiet_load (by rfl) (.tmp 14) rfl g _ rfl x (fun W hC => (HX.out.below hC.below hgw).cast (by omega)) ?_; simp only [encK_bytes, Act.put, List.setIfInBounds_toArray, List.set_cons_succ, List.set_cons_zero])
          | ((with_reducible refine at_qload 3 ?_); refine wpQuiet_load_row (by rfl) 29 (.tmp 3) rfl w.heap.size rfl 29 (bytesA k.1) _ (fun _ hC => below_blk hC.below K3.out K3.out.lt) Try.underlying29 rfl (szK k) ?_; simp only [Act.put, List.setIfInBounds_toArray, List.set_cons_succ, List.set_cons_zero])
          | ((with_reducible refine at_qeql 11 15 ?_); refine wpQuiet_eql_row (by rfl) 29 _ (.tmp 11) (.tmp 15) rfl (bytesA k.1) (bytesA x.1) rfl rfl (by kernel_rfl) false HE.out ?_; simp only [Act.put, List.setIfInBounds_toArray, List.set_cons_succ, List.set_cons_zero])
          | (go_big_quiet_want; go_big_quiet_op; refine ⟨_, fun _ _ => by with_reducible rfl, ?_⟩; go_big_quiet_on)
          | go_big_quiet_step (fail))
        refine wpQuiet_nil ?_
        intro w9 hC
        go_wp2_with fail
        go_roundw
        case rel =>
          refine ⟨j + 1, by go_num, by omega, Lib.hid (fun q h1 h2 => ?_), Lib.hid ⟨HW.out.1.trans (hC.below.mono HW.out.1.size), below_blk hC.below HW.out.2.1 HW.out.2.1.lt, HW.out.2.2.1.below (hC.below.mono (by have := HW.out.2.2.2; omega)), Nat.lt_of_lt_of_le HW.out.2.2.2 hC.below.size⟩⟩
          by_cases e : q = j
          · subst e; rw [HXE.out]; exact decide_eq_false (fun e => of_decide_eq_false HBX.out (e.symm))
          · exact HI.out q h1 (by omega)
        case measure => simp [intOf]; omega
      · go_wp2_with fail
        refine wp_region_from (by kernel_rfl) (by kernel_rfl) ?_
        repeat (first
          | ((with_reducible refine at_qload 14 ?_); refine tyK.wpQuiet_load (by rfl) (.tmp 14) rfl g _ rfl x (fun W hC => (HX.out.below hC.below hgw).cast (by omega)) ?_; simp only [encK_bytes, Act.put, List.setIfInBounds_toArray, List.set_cons_succ, List.set_cons_zero])
          | ((with_reducible refine at_qload 3 ?_); refine wpQuiet_load_row (by rfl) 29 (.tmp 3) rfl w.heap.size rfl 29 (bytesA k.1) _ (fun _ hC => below_blk hC.below K3.out K3.out.lt) Try.underlying29 rfl (szK k) ?_; simp only [Act.put, List.setIfInBounds_toArray, List.set_cons_succ, List.set_cons_zero])
          | ((with_reducible refine at_qeql 11 15 ?_); refine wpQuiet_eql_row (by rfl) 29 _ (.tmp 11) (.tmp 15) rfl (bytesA k.1) (bytesA x.1) rfl rfl (by kernel_rfl) true HE.out ?_; simp only [Act.put, List.setIfInBounds_toArray, List.set_cons_succ, List.set_cons_zero])
          | (go_big_quiet_want; go_big_quiet_op; refine ⟨_, fun _ _ => by with_reducible rfl, ?_⟩; go_big_quiet_on)
          | go_big_quiet_step (fail))
        refine wpQuiet_nil ?_
        intro w9 hC
        go_wp2_with fail
        go_ret
        refine ⟨?_, HW.out.1.trans (hC.below.mono HW.out.1.size)⟩
        have hxk : x = k := (of_decide_eq_true HBX.out).symm
        rw [← HR.out, firstI_at _ l j hj' (by rw [HXE.out]; exact decide_eq_true hxk) HI.out]
        rfl
    · go_wp2_with fail
      go_ret
      refine ⟨?_, HW.out.1⟩
      rw [← HR.out, firstI_none _ l (fun q hq => HI.out q hq (by have := HN.out; omega))]
      rfl
set_option maxRecDepth 20000 in
set_option maxHeartbeats 1000000 in
theorem refHas_any (A : Option Addr) (c : Nat) (l : List K32) (k : K32) (B : Nat) (w : World) (hl : l.length ≤ 1000000) (hB : B ≤ w.heap.size) (h : RowIn encK 32 w B A c l) :
    Calls Try.prog 17 #[.slice A l.length c, .agg (bytesA k.1)] w fun e w' => e = .returned (.bool (decide (k ∈ l))) ∧ Below w.heap.size w w' := by
  obtain ⟨r, hr⟩ : ∃ r, decide (k ∈ l) = r := ⟨_, rfl⟩
  rw [hr]
  have HR := Lib.hid hr
  clear hr
  have B1 : Below w.heap.size w (w.alloc (.cells (bytesA k.1) 29)) := (Below.refl _ _).alloc (Nat.le_refl _) _
  have K3 := Lib.hid (Blk.new w 29 (bytesA k.1))
  have HH := Lib.hid (h.below (B1.mono hB))
  clear h
  have HB1 := Lib.hid B1
  clear B1
  obtain ⟨n, hn⟩ : ∃ n, l.length = n := ⟨_, rfl⟩
  have HN := Lib.hid hn
  rw [hn] at hl ⊢
  clear hn
  go_enter Try.func17, Try.ntmps17
  go_wp2_with fail
  go_loopw [5] (fun i wr => ∃ j : Nat, i = .int .i64 j ∧ j ≤ n ∧ Hid (∀ q (h : q < l.length), q < j → decide (l[q] = k) = false) ∧ Hid (Below w.heap.size w wr ∧ Blk wr w.heap.size 29 (bytesA k.1) ∧ RowIn encK 32 wr B A c l ∧ w.heap.size < wr.heap.size)) (fun i _ => n - (intOf i).toNat)
  case atStart => exact ⟨0, rfl, by omega, Lib.hid (fun q h1 h2 => absurd h2 (Nat.not_lt_zero _)), Lib.hid ⟨HB1.out, K3.out, HH.out, by simp⟩⟩
  case round =>
    clear K3 HB1 HH
    obtain ⟨j, rfl, hj, HI, HW⟩ := hrel
    by_cases hlt : j < n
    · have hj' : j < l.length := by rw [HN.out]; exact hlt
      obtain ⟨g, o, rfl, hg, hc⟩ := HW.out.2.2.1.cells (by intro e; subst e; simp at hj')
      have HX := Lib.hid (hc.at encK_len hj')
      clear hc
      have hgw : g < wr.heap.size := by have := HW.out.2.2.2; omega
      have K3 := Lib.hid HW.out.2.1
      obtain ⟨x, hx⟩ : ∃ x, l[j]'hj' = x := ⟨_, rfl⟩
      rw [hx] at HX
      have HXE := Lib.hid hx
      clear hx
      have d1 : (0 : Int) ≤ (j : Int) := by omega
      have d2 : (j : Int) < (n : Int) := by omega
      obtain ⟨b, hb⟩ : ∃ b, decide (x = k) = b := ⟨_, rfl⟩
      have HE := Lib.hid (eqK_is hb)
      have HBX := Lib.hid hb
      clear hb
      cases b
      · go_wp2_with fail
        refine wp_region_from (by kernel_rfl) (by kernel_rfl) ?_
        repeat (first
          | ((with_reducible refine at_qload 14 ?_); refine tyK.wpQuiet_load (by rfl) (.tmp 14) rfl g _ rfl x (fun W hC => (HX.out.below hC.below hgw).cast (by omega)) ?_; simp only [encK_bytes, Act.put, List.setIfInBounds_toArray, List.set_cons_succ, List.set_cons_zero])
          | ((with_reducible refine at_qload 3 ?_); refine wpQuiet_load_row (by rfl) 29 (.tmp 3) rfl w.heap.size rfl 29 (bytesA k.1) _ (fun _ hC => below_blk hC.below K3.out K3.out.lt) Try.underlying29 rfl (szK k) ?_; simp only [Act.put, List.setIfInBounds_toArray, List.set_cons_succ, List.set_cons_zero])
          | ((with_reducible refine at_qeql 15 16 ?_); refine wpQuiet_eql_row (by rfl) 29 _ (.tmp 15) (.tmp 16) rfl (bytesA x.1) (bytesA k.1) rfl rfl (by kernel_rfl) false HE.out ?_; simp only [Act.put, List.setIfInBounds_toArray, List.set_cons_succ, List.set_cons_zero])
          | (go_big_quiet_want; go_big_quiet_op; refine ⟨_, fun _ _ => by with_reducible rfl, ?_⟩; go_big_quiet_on)
          | go_big_quiet_step (fail))
        refine wpQuiet_nil ?_
        intro w9 hC
        go_wp2_with fail
        go_roundw
        case rel =>
          refine ⟨j + 1, by go_num, by omega, Lib.hid (fun q h1 h2 => ?_), Lib.hid ⟨HW.out.1.trans (hC.below.mono HW.out.1.size), below_blk hC.below HW.out.2.1 HW.out.2.1.lt, HW.out.2.2.1.below (hC.below.mono (by have := HW.out.2.2.2; omega)), Nat.lt_of_lt_of_le HW.out.2.2.2 hC.below.size⟩⟩
          by_cases e : q = j
          · subst e; rw [HXE.out]; exact decide_eq_false (fun e => of_decide_eq_false HBX.out (e))
          · exact HI.out q h1 (by omega)
        case measure => simp [intOf]; omega
      · go_wp2_with fail
        refine wp_region_from (by kernel_rfl) (by kernel_rfl) ?_
        repeat (first
          | ((with_reducible refine at_qload 14 ?_); refine tyK.wpQuiet_load (by rfl) (.tmp 14) rfl g _ rfl x (fun W hC => (HX.out.below hC.below hgw).cast (by omega)) ?_; simp only [encK_bytes, Act.put, List.setIfInBounds_toArray, List.set_cons_succ, List.set_cons_zero])
          | ((with_reducible refine at_qload 3 ?_); refine wpQuiet_load_row (by rfl) 29 (.tmp 3) rfl w.heap.size rfl 29 (bytesA k.1) _ (fun _ hC => below_blk hC.below K3.out K3.out.lt) Try.underlying29 rfl (szK k) ?_; simp only [Act.put, List.setIfInBounds_toArray, List.set_cons_succ, List.set_cons_zero])
          | ((with_reducible refine at_qeql 15 16 ?_); refine wpQuiet_eql_row (by rfl) 29 _ (.tmp 15) (.tmp 16) rfl (bytesA x.1) (bytesA k.1) rfl rfl (by kernel_rfl) true HE.out ?_; simp only [Act.put, List.setIfInBounds_toArray, List.set_cons_succ, List.set_cons_zero])
          | (go_big_quiet_want; go_big_quiet_op; refine ⟨_, fun _ _ => by with_reducible rfl, ?_⟩; go_big_quiet_on)
          | go_big_quiet_step (fail))
        refine wpQuiet_nil ?_
        intro w9 hC
        go_wp2_with fail
        go_ret
        refine ⟨?_, HW.out.1.trans (hC.below.mono HW.out.1.size)⟩
        have hxk : x = k := of_decide_eq_true HBX.out
        rw [← HR.out, has_at k l j hj' (HXE.out.trans hxk)]
        rfl
    · go_wp2_with fail
      go_ret
      refine ⟨?_, HW.out.1⟩
      rw [← HR.out, has_none k l (fun q hq => HI.out q hq (by have := HN.out; omega))]
      rfl
theorem placeC_any (g1 : Nat) (k x : K32) (W : World) (h : Blk W g1 29 (bytesA k.1)) :
    Calls Try.prog 41 #[.agg (bytesA x.1), .pointer (some ⟨g1, 0, none⟩)] W fun e w' => e = .returned (.bool (ltK k x)) ∧ Below W.heap.size W w' := by
  have K1 := Lib.hid (h.alloc (.cells (bytesA x.1) 29))
  have K2 := Lib.hid (Blk.new W 29 (bytesA x.1))
  have B1 : Below W.heap.size W (W.alloc (.cells (bytesA x.1) 29)) := (Below.refl _ _).alloc (Nat.le_refl _) _
  clear h
  go_enter Try.func41, Try.ntmps41
  go_wp2_with (first
    | ((with_reducible refine at_loadg 1 ?_); refine wpList_load_rowg (by rfl) 29 (.tmp 1) rfl g1 rfl 29 (bytesA k.1) _ K1.out Try.underlying29 rfl (szK k) ?_)
    | ((with_reducible refine at_loadg 2 ?_); refine wpList_load_rowg (by rfl) 29 (.tmp 2) rfl W.heap.size rfl 29 (bytesA x.1) _ K2.out Try.underlying29 rfl (szK x) ?_)
    | (go_at_call 42; refine (less_any k x _).mono ?_; rintro e w2 ⟨rfl, g2⟩))
  go_ret
  exact ⟨rfl, B1.trans (g2.below.mono (by simp))⟩
theorem enters38 : ∀ args w, (callFunc 41 args).run Try.prog w = .ok (.enter 41 args) w := enters_of Try.func41 (by kernel_rfl) rfl
theorem placeI_find (k : K32) (l : List K32) (h : k ∉ l) : firstI (fun x => ltK k x) l = if placeI k l < l.length then (placeI k l : Int) else -1 := by
  unfold firstI placeI
  rw [if_neg h]
  by_cases h1 : l.any (fun x => ltK k x) = true
  · rw [if_pos h1, if_pos]
    obtain ⟨x, hx, he⟩ := List.any_eq_true.1 h1
    exact List.findIdx_lt_length_of_exists ⟨x, hx, he⟩
  · rw [if_neg h1, if_neg]
    intro h2
    apply h1
    have := List.findIdx_getElem (w := h2)
    exact List.any_eq_true.2 ⟨_, List.getElem_mem h2, this⟩
set_option maxRecDepth 20000 in
set_option maxHeartbeats 1000000 in
theorem place_any (A : Option Addr) (c : Nat) (l : List K32) (k : K32) (B : Nat) (hl : l.length ≤ 1000000) (w : World) (hB : B ≤ w.heap.size) (h : RowIn encK 32 w B A c l) :
    Calls Try.prog 30 #[.slice A l.length c, .agg (bytesA k.1)] w fun e w' => e = .returned (.tuple #[.int .i64 (placeI k l : Nat), .bool (decide (k ∈ l))]) ∧ Below w.heap.size w w' := by
  have B1 : Below w.heap.size w (w.alloc (.cells (bytesA k.1) 29)) := (Below.refl _ _).alloc (Nat.le_refl _) _
  have K3 := Lib.hid (Blk.new w 29 (bytesA k.1))
  have HS := Lib.hid (isSorted_any A c l B (w.alloc (.cells (bytesA k.1) 29)) hl (by simp; omega) (h.below (B1.mono hB)))
  have HV := Lib.hid (fun W (hW : Below w.heap.size w W) (hr : Rises l) => halves_any A c l k B hl hr W (Nat.le_trans hB hW.size) (h.below (hW.mono hB)))
  have HX := Lib.hid (fun W (hW : Below w.heap.size w W) => index_any A c l k B W hl (Nat.le_trans hB hW.size) (h.below (hW.mono hB)))
  have HF := Lib.hid (fun W (hW : Below w.heap.size w W) (hk : Blk W w.heap.size 29 (bytesA k.1)) => indexFunc_any A c l B W hl (Nat.le_trans hB hW.size) (h.below (hW.mono hB)) 41 #[.pointer (some ⟨w.heap.size, 0, none⟩)] (fun x => ltK k x) enters38 (fun x W' hb => placeC_any w.heap.size k x W' (below_blk hb hk hk.lt)))
  have HB1 := Lib.hid B1
  clear h B1
  obtain ⟨b, hb⟩ : ∃ b, decide (Rises l) = b := ⟨_, rfl⟩
  rw [hb] at HS
  cases b
  · clear hb HV
    have hfm := firstI_mem k l
    by_cases hm : k ∈ l
    · have hp : placeI k l = l.idxOf k := by unfold placeI; rw [if_pos hm]
      rw [decide_eq_true hm, hp]
      rw [if_pos hm] at hfm
      rw [hfm] at HX
      obtain ⟨j, hj⟩ : ∃ j, l.idxOf k = j := ⟨_, rfl⟩
      rw [hj] at HX ⊢
      obtain ⟨n, hn⟩ : ∃ n, l.length = n := ⟨_, rfl⟩
      rw [hn] at HX HS HF ⊢
      have d1 : decide ((0 : Int) ≤ (j : Int)) = true := decide_eq_true (by omega)
      clear hfm hp hm hj hn hl
      go_enter Try.func30, Try.ntmps30
      go_wp2_with (first
        | (go_at_call 37; refine HS.out.mono ?_; rintro e w1 ⟨rfl, b1⟩; have B2 := HB1.out.trans (b1.mono HB1.out.size); have K3' := Lib.hid (below_blk b1 K3.out K3.out.lt))
        | ((with_reducible refine at_loadg 3 ?_); refine wpList_load_rowg (by rfl) 29 (.tmp 3) rfl w.heap.size rfl 29 (bytesA k.1) _ K3'.out Try.underlying29 rfl (szK k) ?_)
        | (go_at_call 39; refine (HX.out _ B2).mono ?_; rintro e w2 ⟨rfl, b2⟩))
      go_ret2
      exact ⟨rfl, B2.trans (b2.mono B2.size)⟩
    · have hpf := placeI_find k l hm
      rw [decide_eq_false hm]
      rw [if_neg hm] at hfm
      rw [hfm] at HX
      rw [hpf] at HF
      have hple := placeI_le k l
      obtain ⟨j, hj⟩ : ∃ j, placeI k l = j := ⟨_, rfl⟩
      rw [hj] at HF hple ⊢
      obtain ⟨n, hn⟩ : ∃ n, l.length = n := ⟨_, rfl⟩
      rw [hn] at HX HS HF hple ⊢
      clear hfm hpf hm hj hn hl
      by_cases hlt : j < n
      · rw [if_pos hlt] at HF
        have d1 : decide ((0 : Int) ≤ (j : Int)) = true := decide_eq_true (by omega)
        go_enter Try.func30, Try.ntmps30
        go_wp2_with (first
          | (go_at_call 37; refine HS.out.mono ?_; rintro e w1 ⟨rfl, b1⟩; have B2 := HB1.out.trans (b1.mono HB1.out.size); have K3' := Lib.hid (below_blk b1 K3.out K3.out.lt))
          | ((with_reducible refine at_loadg 3 ?_); refine wpList_load_rowg (by rfl) 29 (.tmp 3) rfl w.heap.size rfl 29 (bytesA k.1) _ K3'.out Try.underlying29 rfl (szK k) ?_)
          | (go_at_call 39; refine (HX.out _ B2).mono ?_; rintro e w2 ⟨rfl, b2⟩; have B3 := B2.trans (b2.mono B2.size); have K4 := Lib.hid (below_blk b2 K3'.out K3'.out.lt))
          | (go_at_call 40; refine (HF.out _ B3 K4.out).mono ?_; rintro e w3 ⟨rfl, b3⟩))
        go_ret2
        exact ⟨rfl, B3.trans (b3.mono B3.size)⟩
      · rw [if_neg hlt] at HF
        obtain rfl : j = n := by omega
        go_enter Try.func30, Try.ntmps30
        go_wp2_with (first
          | (go_at_call 37; refine HS.out.mono ?_; rintro e w1 ⟨rfl, b1⟩; have B2 := HB1.out.trans (b1.mono HB1.out.size); have K3' := Lib.hid (below_blk b1 K3.out K3.out.lt))
          | ((with_reducible refine at_loadg 3 ?_); refine wpList_load_rowg (by rfl) 29 (.tmp 3) rfl w.heap.size rfl 29 (bytesA k.1) _ K3'.out Try.underlying29 rfl (szK k) ?_)
          | (go_at_call 39; refine (HX.out _ B2).mono ?_; rintro e w2 ⟨rfl, b2⟩; have B3 := B2.trans (b2.mono B2.size); have K4 := Lib.hid (below_blk b2 K3'.out K3'.out.lt))
          | (go_at_call 40; refine (HF.out _ B3 K4.out).mono ?_; rintro e w3 ⟨rfl, b3⟩))
        go_ret2
        exact ⟨rfl, B3.trans (b3.mono B3.size)⟩
  · have hr : Rises l := of_decide_eq_true hb
    have HV2 := Lib.hid (fun W hW => HV.out W hW hr)
    rw [low_place k l hr] at HV2
    clear hb HV HX HF
    obtain ⟨j, hj⟩ : ∃ j, placeI k l = j := ⟨_, rfl⟩
    rw [hj] at HV2 ⊢
    obtain ⟨r, hr'⟩ : ∃ r, decide (k ∈ l) = r := ⟨_, rfl⟩
    rw [hr'] at HV2 ⊢
    obtain ⟨n, hn⟩ : ∃ n, l.length = n := ⟨_, rfl⟩
    rw [hn] at HV2 HS ⊢
    clear hj hr' hn hr hl
    go_enter Try.func30, Try.ntmps30
    go_wp2_with (first
      | (go_at_call 37; refine HS.out.mono ?_; rintro e w1 ⟨rfl, b1⟩; have B2 := HB1.out.trans (b1.mono HB1.out.size); have K3' := Lib.hid (below_blk b1 K3.out K3.out.lt))
      | ((with_reducible refine at_loadg 3 ?_); refine wpList_load_rowg (by rfl) 29 (.tmp 3) rfl w.heap.size rfl 29 (bytesA k.1) _ K3'.out Try.underlying29 rfl (szK k) ?_)
      | (go_at_call 34; refine (HV2.out _ B2).mono ?_; rintro e w2 ⟨rfl, b2⟩))
    go_ret2
    exact ⟨rfl, B2.trans (b2.mono B2.size)⟩
end Go.Proofs.Ytklfbconbkbmpaa
