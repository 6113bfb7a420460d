/- Fees: the project's functions. Written by genFB.py. -/
import Derived.Test.YtpoejbfcioijhaaFeeA
import Derived.Deep.RegionHeld
namespace Go.Proofs.Ytpoejbfcioijhaa
open Go.RowKit
set_option maxRecDepth 20000 in
theorem gr_int (x y : Int) (g : Nat) (w : World) (hc : w.cell? ⟨g, 0, none⟩ = some (.int .i64 y)) : Calls Try.prog 54 #[.int .i64 x, .slice (some ⟨g, 0, none⟩) 1 1] w fun e w' => e = .returned (.int .i64 (max x y)) ∧ w = w' := by
  obtain ⟨m, hm⟩ : ∃ m, max x y = m := ⟨_, rfl⟩
  rw [hm]
  have HM := Lib.hid hm
  clear hm
  go_enter Try.func54, Try.ntmps54
  go_wp2
  go_loop [0, 9] (fun t i => ∃ k : Nat, k ≤ 1 ∧ i = .int .i64 k ∧ ∃ s : Int, t = .int .i64 s ∧ Hid (s = if k = 0 then x else m)) (fun _ i => 1 - (intOf i).toNat)
  case atStart => exact ⟨0, Nat.zero_le _, rfl, x, rfl, Lib.hid rfl⟩
  case round =>
    obtain ⟨k, hk, rfl, s, rfl, HS⟩ := hrel
    by_cases hlt : k < 1
    · obtain rfl : k = 0 := by omega
      have hs := HS.out
      rw [if_pos rfl] at hs
      subst hs
      clear hk HS
      by_cases hgt : s < y
      · have hm := HM.out
        have he : m = y := by omega
        go_wp2_with fail
        exact ⟨⟨1, Nat.le_refl _, rfl, y, rfl, Lib.hid (by rw [if_neg (by decide)]; exact he.symm)⟩, by decide⟩
      · have hm := HM.out
        have he : m = s := by omega
        go_wp2_with fail
        exact ⟨⟨1, Nat.le_refl _, rfl, s, rfl, Lib.hid (by rw [if_neg (by decide)]; exact he.symm)⟩, by decide⟩
    · obtain rfl : k = 1 := by omega
      have hs := HS.out
      rw [if_neg (by decide)] at hs
      subst hs
      go_wp2_with fail
      go_ret
      exact ⟨rfl, rfl⟩
set_option maxRecDepth 20000 in
theorem gr_i64 (x y : Int) (g : Nat) (w : World) (hc : w.cell? ⟨g, 0, none⟩ = some (.int .i64 y)) : Calls Try.prog 53 #[.int .i64 x, .slice (some ⟨g, 0, none⟩) 1 1] w fun e w' => e = .returned (.int .i64 (max x y)) ∧ w = w' := by
  obtain ⟨m, hm⟩ : ∃ m, max x y = m := ⟨_, rfl⟩
  rw [hm]
  have HM := Lib.hid hm
  clear hm
  go_enter Try.func53, Try.ntmps53
  go_wp2
  go_loop [0, 9] (fun t i => ∃ k : Nat, k ≤ 1 ∧ i = .int .i64 k ∧ ∃ s : Int, t = .int .i64 s ∧ Hid (s = if k = 0 then x else m)) (fun _ i => 1 - (intOf i).toNat)
  case atStart => exact ⟨0, Nat.zero_le _, rfl, x, rfl, Lib.hid rfl⟩
  case round =>
    obtain ⟨k, hk, rfl, s, rfl, HS⟩ := hrel
    by_cases hlt : k < 1
    · obtain rfl : k = 0 := by omega
      have hs := HS.out
      rw [if_pos rfl] at hs
      subst hs
      clear hk HS
      by_cases hgt : s < y
      · have hm := HM.out
        have he : m = y := by omega
        go_wp2_with fail
        exact ⟨⟨1, Nat.le_refl _, rfl, y, rfl, Lib.hid (by rw [if_neg (by decide)]; exact he.symm)⟩, by decide⟩
      · have hm := HM.out
        have he : m = s := by omega
        go_wp2_with fail
        exact ⟨⟨1, Nat.le_refl _, rfl, s, rfl, Lib.hid (by rw [if_neg (by decide)]; exact he.symm)⟩, by decide⟩
    · obtain rfl : k = 1 := by omega
      have hs := HS.out
      rw [if_neg (by decide)] at hs
      subst hs
      go_wp2_with fail
      go_ret
      exact ⟨rfl, rfl⟩
theorem blk_first {w : World} {g : Nat} {t : TypeId} {v : Value} (h : Blk w g t #[v]) : w.cell? ⟨g, 0, none⟩ = some v := by
  have := h.cell 0
  simpa using this
structure FS (w : World) (a : TxA) (W : World) : Prop where
  b : Below w.heap.size w W
  k : Blk W w.heap.size 29 a.cells.toArray
theorem FS.alloc {w W : World} {a : TxA} (h : FS w a W) (o : Obj) : FS w a (W.alloc o) := ⟨h.b.alloc h.b.size o, h.k.alloc o⟩
set_option maxRecDepth 20000 in
set_option maxHeartbeats 2000000 in
theorem pAct_f : ActOk := by
  intro a w hf
  have := hf.i; have := hf.o; have := hf.n; have := hf.t
  have B1 := Lib.hid ((Below.refl w.heap.size w).alloc (Nat.le_refl _) (.cells a.cells.toArray 29))
  have K1 := Lib.hid (Blk.new w 29 a.cells.toArray)
  obtain ⟨x, hx⟩ : ∃ x : Int, max (a.T.ins.length : Int) (a.T.outs.length : Int) = x := ⟨_, rfl⟩
  obtain ⟨y, hy⟩ : ∃ y : Int, max (a.T.nulls.length : Int) (a.T.notes.length : Int) = y := ⟨_, rfl⟩
  obtain ⟨z, hz⟩ : ∃ z : Int, x + y = z := ⟨_, rfl⟩
  have hr : ((actF a.T : Nat) : Int) = z := by unfold actF; omega
  have h4 : IntKind.i64.wrap z = z := by rw [IntKind.wrap_i64]; omega
  rw [hr]
  clear hr this hf
  go_enter Try.func55, Try.ntmps55
  go_wp2_with fail
  refine wp_region_held_drew (S := FS w a) (by kernel_rfl) ⟨B1.out.drew, K1.out⟩ ?_
  intro hS
  generalize (w.alloc (.cells a.cells.toArray 29)).drew = wd at hS ⊢
  clear B1 K1
  refine wpAnyH_take (i := 0) (v := .pointer (some ⟨w.heap.size, 1, none⟩)) rfl (by kernel_rfl) (by kernel_rfl) (by kernel_rfl) (fun _ _ _ h => h) (Or.inl ⟨by rfl, fun W _ => by go_simp; try with_reducible rfl⟩) hS ?_
  simp only [Act.put, List.getElem_toArray, List.getElem_cons_zero, List.setIfInBounds_toArray, List.set_cons_succ, List.set_cons_zero]
  refine wpAnyH_take (i := 1) (v := .slice a.Ai a.T.ins.length a.ci) rfl (by kernel_rfl) (by kernel_rfl) (by kernel_rfl) (fun _ _ _ h => h) (yieldsIf_cell (by rfl) 23 (.tmp 3) rfl ⟨w.heap.size, 1, none⟩ rfl _ Try.isAgg23 (fun _ h => TxA.c1 (RowC.of_blk h.k))) hS ?_
  simp only [Act.put, List.getElem_toArray, List.getElem_cons_zero, List.getElem_cons_succ, List.setIfInBounds_toArray, List.set_cons_succ, List.set_cons_zero]
  refine wpAnyH_take (i := 2) (v := .int .i64 (a.T.ins.length : Nat)) rfl (by kernel_rfl) (by kernel_rfl) (by kernel_rfl) (fun _ _ _ h => h) (Or.inl ⟨by rfl, fun W _ => by go_simp; try with_reducible rfl⟩) hS ?_
  simp only [Act.put, List.getElem_toArray, List.getElem_cons_zero, List.getElem_cons_succ, List.setIfInBounds_toArray, List.set_cons_succ, List.set_cons_zero]
  refine wpAnyH_take (i := 3) (v := .pointer (some ⟨w.heap.size, 2, none⟩)) rfl (by kernel_rfl) (by kernel_rfl) (by kernel_rfl) (fun _ _ _ h => h) (Or.inl ⟨by rfl, fun W _ => by go_simp; try with_reducible rfl⟩) hS ?_
  simp only [Act.put, List.getElem_toArray, List.getElem_cons_zero, List.getElem_cons_succ, List.setIfInBounds_toArray, List.set_cons_succ, List.set_cons_zero]
  refine wpAnyH_take (i := 4) (v := .slice a.Ao a.T.outs.length a.co) rfl (by kernel_rfl) (by kernel_rfl) (by kernel_rfl) (fun _ _ _ h => h) (yieldsIf_cell (by rfl) 24 (.tmp 6) rfl ⟨w.heap.size, 2, none⟩ rfl _ Try.isAgg24 (fun _ h => TxA.c2 (RowC.of_blk h.k))) hS ?_
  simp only [Act.put, List.getElem_toArray, List.getElem_cons_zero, List.getElem_cons_succ, List.setIfInBounds_toArray, List.set_cons_succ, List.set_cons_zero]
  refine wpAnyH_take (i := 5) (v := .int .i64 (a.T.outs.length : Nat)) rfl (by kernel_rfl) (by kernel_rfl) (by kernel_rfl) (fun _ _ _ h => h) (Or.inl ⟨by rfl, fun W _ => by go_simp; try with_reducible rfl⟩) hS ?_
  simp only [Act.put, List.getElem_toArray, List.getElem_cons_zero, List.getElem_cons_succ, List.setIfInBounds_toArray, List.set_cons_succ, List.set_cons_zero]
  refine wpAnyH_take (i := 8) (v := .pointer (some ⟨w.heap.size, 35, none⟩)) rfl (by kernel_rfl) (by kernel_rfl) (by kernel_rfl) (fun _ _ _ h => h) (Or.inl ⟨by rfl, fun W _ => by go_simp; try with_reducible rfl⟩) hS ?_
  simp only [Act.put, List.getElem_toArray, List.getElem_cons_zero, List.getElem_cons_succ, List.setIfInBounds_toArray, List.set_cons_succ, List.set_cons_zero]
  refine wpAnyH_take (i := 9) (v := .slice a.An a.T.nulls.length a.cn) rfl (by kernel_rfl) (by kernel_rfl) (by kernel_rfl) (fun _ _ _ h => h) (yieldsIf_cell (by rfl) 27 (.tmp 11) rfl ⟨w.heap.size, 35, none⟩ rfl _ Try.isAgg27 (fun _ h => TxA.c4 (RowC.of_blk h.k))) hS ?_
  simp only [Act.put, List.getElem_toArray, List.getElem_cons_zero, List.getElem_cons_succ, List.setIfInBounds_toArray, List.set_cons_succ, List.set_cons_zero]
  refine wpAnyH_take (i := 10) (v := .int .i64 (a.T.nulls.length : Nat)) rfl (by kernel_rfl) (by kernel_rfl) (by kernel_rfl) (fun _ _ _ h => h) (Or.inl ⟨by rfl, fun W _ => by go_simp; try with_reducible rfl⟩) hS ?_
  simp only [Act.put, List.getElem_toArray, List.getElem_cons_zero, List.getElem_cons_succ, List.setIfInBounds_toArray, List.set_cons_succ, List.set_cons_zero]
  refine wpAnyH_take (i := 11) (v := .pointer (some ⟨w.heap.size, 36, none⟩)) rfl (by kernel_rfl) (by kernel_rfl) (by kernel_rfl) (fun _ _ _ h => h) (Or.inl ⟨by rfl, fun W _ => by go_simp; try with_reducible rfl⟩) hS ?_
  simp only [Act.put, List.getElem_toArray, List.getElem_cons_zero, List.getElem_cons_succ, List.setIfInBounds_toArray, List.set_cons_succ, List.set_cons_zero]
  refine wpAnyH_take (i := 12) (v := .slice a.At a.T.notes.length a.ct) rfl (by kernel_rfl) (by kernel_rfl) (by kernel_rfl) (fun _ _ _ h => h) (yieldsIf_cell (by rfl) 27 (.tmp 14) rfl ⟨w.heap.size, 36, none⟩ rfl _ Try.isAgg27 (fun _ h => TxA.c5 (RowC.of_blk h.k))) hS ?_
  simp only [Act.put, List.getElem_toArray, List.getElem_cons_zero, List.getElem_cons_succ, List.setIfInBounds_toArray, List.set_cons_succ, List.set_cons_zero]
  refine wpAnyH_take (i := 13) (v := .int .i64 (a.T.notes.length : Nat)) rfl (by kernel_rfl) (by kernel_rfl) (by kernel_rfl) (fun _ _ _ h => h) (Or.inl ⟨by rfl, fun W _ => by go_simp; try with_reducible rfl⟩) hS ?_
  simp only [Act.put, List.getElem_toArray, List.getElem_cons_zero, List.getElem_cons_succ, List.setIfInBounds_toArray, List.set_cons_succ, List.set_cons_zero]
  refine wpAnyH_ready (rs := [6, 14]) (by kernel_rfl) (by simp) ?_
  refine AllReadyH.cons rfl (fun Kq hK => ?_) (AllReadyH.cons rfl (fun Kq hK => ?_) (AllReadyH.nil))
  · go_simp
    have Kn := Blk.new (wd) 3 #[.int .i64 ((a.T.outs.length : Nat) : Int)]
    have K6 := Lib.hid Kn
    clear Kn
    refine hK.out _ _ (hS.alloc (.cells #[.int .i64 ((a.T.outs.length : Nat) : Int)] 3)) (fun hS => ?_)
    clear hK Kq
    try simp only [Act.put, List.getElem_toArray, List.getElem_cons_zero, List.getElem_cons_succ, List.setIfInBounds_toArray, List.set_cons_succ, List.set_cons_zero]
    refine wpAnyH_ready (rs := [7, 14]) (by kernel_rfl) (by simp) ?_
    refine AllReadyH.cons rfl (fun Kq hK => ?_) (AllReadyH.cons rfl (fun Kq hK => ?_) (AllReadyH.nil))
    · go_simp
      with_reducible refine (gr_int ((a.T.ins.length : Nat) : Int) ((a.T.outs.length : Nat) : Int) _ _ (blk_first K6.out)).mono ?_
      rintro e x1 ⟨rfl, rfl⟩
      refine hK.out _ _ hS (fun hS => ?_)
      clear hK Kq
      try simp only [Act.put, List.getElem_toArray, List.getElem_cons_zero, List.getElem_cons_succ, List.setIfInBounds_toArray, List.set_cons_succ, List.set_cons_zero]
      refine wpAnyH_ready (rs := [14]) (by kernel_rfl) (by simp) ?_
      refine AllReadyH.cons rfl (fun Kq hK => ?_) AllReadyH.nil
      go_simp
      have Kn := Blk.new ((wd).alloc (.cells #[.int .i64 ((a.T.outs.length : Nat) : Int)] 3)) 3 #[.int .i64 ((a.T.notes.length : Nat) : Int)]
      simp only [World.size_alloc] at Kn
      have K14 := Lib.hid Kn
      clear Kn
      have K6' := Lib.hid (K6.out.alloc (.cells #[.int .i64 ((a.T.notes.length : Nat) : Int)] 3))
      clear K6
      have K6 := K6'
      clear K6'
      refine hK.out _ _ (hS.alloc (.cells #[.int .i64 ((a.T.notes.length : Nat) : Int)] 3)) (fun hS => ?_)
      clear hK Kq
      try simp only [Act.put, List.getElem_toArray, List.getElem_cons_zero, List.getElem_cons_succ, List.setIfInBounds_toArray, List.set_cons_succ, List.set_cons_zero]
      refine wpAnyH_ready (rs := [15]) (by kernel_rfl) (by simp) ?_
      refine AllReadyH.cons rfl (fun Kq hK => ?_) AllReadyH.nil
      go_simp
      with_reducible refine (gr_int ((a.T.nulls.length : Nat) : Int) ((a.T.notes.length : Nat) : Int) _ _ (blk_first K14.out)).mono ?_
      rintro e x1 ⟨rfl, rfl⟩
      refine hK.out _ _ hS (fun hS => ?_)
      clear hK Kq
      try simp only [Act.put, List.getElem_toArray, List.getElem_cons_zero, List.getElem_cons_succ, List.setIfInBounds_toArray, List.set_cons_succ, List.set_cons_zero]
      try rw [hx, hy]
      refine wpAnyH_take (i := 16) (v := .int .i64 z) rfl (by kernel_rfl) (by kernel_rfl) (by kernel_rfl) (fun _ _ _ h => h) (Or.inl ⟨by rfl, fun W _ => by go_simp; try with_reducible rfl⟩) hS ?_
      simp only [Act.put, List.getElem_toArray, List.getElem_cons_zero, List.getElem_cons_succ, List.setIfInBounds_toArray, List.set_cons_succ, List.set_cons_zero]
      refine wpAnyH_ready (rs := [17]) (by kernel_rfl) (by simp) ?_
      refine AllReadyH.cons rfl (fun Kq hK => ?_) AllReadyH.nil
      go_simp
      refine hK.out _ _ hS (fun hS => ?_)
      clear hK Kq
      refine wpAnyH_done (by kernel_rfl) ?_ _
      go_wp2_with fail
      go_ret
      exact ⟨rfl, hS.b⟩
    · go_simp
      have Kn := Blk.new ((wd).alloc (.cells #[.int .i64 ((a.T.outs.length : Nat) : Int)] 3)) 3 #[.int .i64 ((a.T.notes.length : Nat) : Int)]
      simp only [World.size_alloc] at Kn
      have K14 := Lib.hid Kn
      clear Kn
      have K6' := Lib.hid (K6.out.alloc (.cells #[.int .i64 ((a.T.notes.length : Nat) : Int)] 3))
      clear K6
      have K6 := K6'
      clear K6'
      refine hK.out _ _ (hS.alloc (.cells #[.int .i64 ((a.T.notes.length : Nat) : Int)] 3)) (fun hS => ?_)
      clear hK Kq
      try simp only [Act.put, List.getElem_toArray, List.getElem_cons_zero, List.getElem_cons_succ, List.setIfInBounds_toArray, List.set_cons_succ, List.set_cons_zero]
      refine wpAnyH_ready (rs := [7]) (by kernel_rfl) (by simp) ?_
      refine AllReadyH.cons rfl (fun Kq hK => ?_) AllReadyH.nil
      go_simp
      with_reducible refine (gr_int ((a.T.ins.length : Nat) : Int) ((a.T.outs.length : Nat) : Int) _ _ (blk_first K6.out)).mono ?_
      rintro e x1 ⟨rfl, rfl⟩
      refine hK.out _ _ hS (fun hS => ?_)
      clear hK Kq
      try simp only [Act.put, List.getElem_toArray, List.getElem_cons_zero, List.getElem_cons_succ, List.setIfInBounds_toArray, List.set_cons_succ, List.set_cons_zero]
      refine wpAnyH_ready (rs := [15]) (by kernel_rfl) (by simp) ?_
      refine AllReadyH.cons rfl (fun Kq hK => ?_) AllReadyH.nil
      go_simp
      with_reducible refine (gr_int ((a.T.nulls.length : Nat) : Int) ((a.T.notes.length : Nat) : Int) _ _ (blk_first K14.out)).mono ?_
      rintro e x1 ⟨rfl, rfl⟩
      refine hK.out _ _ hS (fun hS => ?_)
      clear hK Kq
      try simp only [Act.put, List.getElem_toArray, List.getElem_cons_zero, List.getElem_cons_succ, List.setIfInBounds_toArray, List.set_cons_succ, List.set_cons_zero]
      try rw [hx, hy]
      refine wpAnyH_take (i := 16) (v := .int .i64 z) rfl (by kernel_rfl) (by kernel_rfl) (by kernel_rfl) (fun _ _ _ h => h) (Or.inl ⟨by rfl, fun W _ => by go_simp; try with_reducible rfl⟩) hS ?_
      simp only [Act.put, List.getElem_toArray, List.getElem_cons_zero, List.getElem_cons_succ, List.setIfInBounds_toArray, List.set_cons_succ, List.set_cons_zero]
      refine wpAnyH_ready (rs := [17]) (by kernel_rfl) (by simp) ?_
      refine AllReadyH.cons rfl (fun Kq hK => ?_) AllReadyH.nil
      go_simp
      refine hK.out _ _ hS (fun hS => ?_)
      clear hK Kq
      refine wpAnyH_done (by kernel_rfl) ?_ _
      go_wp2_with fail
      go_ret
      exact ⟨rfl, hS.b⟩
  · go_simp
    have Kn := Blk.new (wd) 3 #[.int .i64 ((a.T.notes.length : Nat) : Int)]
    have K14 := Lib.hid Kn
    clear Kn
    refine hK.out _ _ (hS.alloc (.cells #[.int .i64 ((a.T.notes.length : Nat) : Int)] 3)) (fun hS => ?_)
    clear hK Kq
    try simp only [Act.put, List.getElem_toArray, List.getElem_cons_zero, List.getElem_cons_succ, List.setIfInBounds_toArray, List.set_cons_succ, List.set_cons_zero]
    refine wpAnyH_ready (rs := [6]) (by kernel_rfl) (by simp) ?_
    refine AllReadyH.cons rfl (fun Kq hK => ?_) AllReadyH.nil
    go_simp
    have Kn := Blk.new ((wd).alloc (.cells #[.int .i64 ((a.T.notes.length : Nat) : Int)] 3)) 3 #[.int .i64 ((a.T.outs.length : Nat) : Int)]
    simp only [World.size_alloc] at Kn
    have K6 := Lib.hid Kn
    clear Kn
    have K14' := Lib.hid (K14.out.alloc (.cells #[.int .i64 ((a.T.outs.length : Nat) : Int)] 3))
    clear K14
    have K14 := K14'
    clear K14'
    refine hK.out _ _ (hS.alloc (.cells #[.int .i64 ((a.T.outs.length : Nat) : Int)] 3)) (fun hS => ?_)
    clear hK Kq
    try simp only [Act.put, List.getElem_toArray, List.getElem_cons_zero, List.getElem_cons_succ, List.setIfInBounds_toArray, List.set_cons_succ, List.set_cons_zero]
    refine wpAnyH_ready (rs := [7]) (by kernel_rfl) (by simp) ?_
    refine AllReadyH.cons rfl (fun Kq hK => ?_) AllReadyH.nil
    go_simp
    with_reducible refine (gr_int ((a.T.ins.length : Nat) : Int) ((a.T.outs.length : Nat) : Int) _ _ (blk_first K6.out)).mono ?_
    rintro e x1 ⟨rfl, rfl⟩
    refine hK.out _ _ hS (fun hS => ?_)
    clear hK Kq
    try simp only [Act.put, List.getElem_toArray, List.getElem_cons_zero, List.getElem_cons_succ, List.setIfInBounds_toArray, List.set_cons_succ, List.set_cons_zero]
    refine wpAnyH_ready (rs := [15]) (by kernel_rfl) (by simp) ?_
    refine AllReadyH.cons rfl (fun Kq hK => ?_) AllReadyH.nil
    go_simp
    with_reducible refine (gr_int ((a.T.nulls.length : Nat) : Int) ((a.T.notes.length : Nat) : Int) _ _ (blk_first K14.out)).mono ?_
    rintro e x1 ⟨rfl, rfl⟩
    refine hK.out _ _ hS (fun hS => ?_)
    clear hK Kq
    try simp only [Act.put, List.getElem_toArray, List.getElem_cons_zero, List.getElem_cons_succ, List.setIfInBounds_toArray, List.set_cons_succ, List.set_cons_zero]
    try rw [hx, hy]
    refine wpAnyH_take (i := 16) (v := .int .i64 z) rfl (by kernel_rfl) (by kernel_rfl) (by kernel_rfl) (fun _ _ _ h => h) (Or.inl ⟨by rfl, fun W _ => by go_simp; try with_reducible rfl⟩) hS ?_
    simp only [Act.put, List.getElem_toArray, List.getElem_cons_zero, List.getElem_cons_succ, List.setIfInBounds_toArray, List.set_cons_succ, List.set_cons_zero]
    refine wpAnyH_ready (rs := [17]) (by kernel_rfl) (by simp) ?_
    refine AllReadyH.cons rfl (fun Kq hK => ?_) AllReadyH.nil
    go_simp
    refine hK.out _ _ hS (fun hS => ?_)
    clear hK Kq
    refine wpAnyH_done (by kernel_rfl) ?_ _
    go_wp2_with fail
    go_ret
    exact ⟨rfl, hS.b⟩
theorem pWithin (lo hi : Int) (w : World) : Calls Try.prog 45 #[.int .i64 lo, .int .i64 hi] w fun e w' => e = .returned (.func (.func 52) #[] #[.pointer (some ⟨w.heap.size, 0, none⟩), .pointer (some ⟨w.heap.size + 1, 0, none⟩)]) ∧ Blk w' w.heap.size 2 #[.int .i64 lo] ∧ Blk w' (w.heap.size + 1) 2 #[.int .i64 hi] ∧ Below w.heap.size w w' := by
  have hmf : ∀ (fn : Fn) (first cap : Array Value) (w : World), (Instr.makeFunc fn first cap).run Try.prog w = .ok (.func fn first cap) w := fun _ _ _ _ => rfl
  have K1 := Lib.hid ((Blk.new w 2 #[.int .i64 lo]).alloc (.cells #[.int .i64 hi] 2))
  have k2 := Blk.new (w.alloc (.cells #[.int .i64 lo] 2)) 2 #[.int .i64 hi]
  simp only [World.size_alloc] at k2
  have K2 := Lib.hid k2
  clear k2
  have B1 := Lib.hid (((Below.refl w.heap.size w).alloc (Nat.le_refl _) (.cells #[.int .i64 lo] 2)).alloc (by simp) (.cells #[.int .i64 hi] 2))
  go_enter Try.func45, Try.ntmps45
  go_wp2
  go_ret
  exact ⟨rfl, K1.out, K2.out, B1.out⟩
set_option maxRecDepth 20000 in
theorem pWithin1 (n lo hi : Int) (p q : Nat) (w : World) (hp : Blk w p 2 #[.int .i64 lo]) (hq : Blk w q 2 #[.int .i64 hi]) : Calls Try.prog 52 #[.int .i64 n, .pointer (some ⟨p, 0, none⟩), .pointer (some ⟨q, 0, none⟩)] w fun e w' => e = .returned (.int .i64 (min (max lo n) hi)) ∧ Below w.heap.size w w' := by
  have B1 := Lib.hid (Below.refl w.heap.size w)
  obtain ⟨x, hx⟩ : ∃ x, max lo n = x := ⟨_, rfl⟩
  obtain ⟨y, hy⟩ : ∃ y, min x hi = y := ⟨_, rfl⟩
  have h2 := bmin (P := Try.prog) hy
  rw [hx, hy]
  have HP := Lib.hid hp
  have HQ := Lib.hid hq
  clear hp hq hy
  go_enter Try.func52, Try.ntmps52
  go_wp2_with fail
  refine wp_region_held_drew (S := fun W => Blk W p 2 #[.int .i64 lo] ∧ Blk W q 2 #[.int .i64 hi] ∧ Below w.heap.size w W) (by kernel_rfl) ⟨HP.out, HQ.out, B1.out.drew⟩ ?_
  intro hS
  generalize w.drew = wd at hS ⊢
  clear B1 HP HQ
  refine wpAnyH_take (i := 0) (v := .int .i64 lo) rfl (by kernel_rfl) (by kernel_rfl) (by kernel_rfl) (fun _ _ _ h => h) (yieldsIf_cell (by rfl) 2 (.tmp 1) rfl ⟨p, 0, none⟩ rfl _ Try.isAgg2 (fun _ h => blk_first h.1)) hS ?_
  simp only [Act.put, List.getElem_toArray, List.getElem_cons_zero, List.setIfInBounds_toArray, List.set_cons_succ, List.set_cons_zero]
  refine wpAnyH_take (i := 1) (v := .int .i64 n) rfl (by kernel_rfl) (by kernel_rfl) (by kernel_rfl) (fun _ _ _ h => h) (Or.inl ⟨by rfl, fun W _ => by go_simp; try with_reducible rfl⟩) hS ?_
  simp only [Act.put, List.getElem_toArray, List.getElem_cons_zero, List.getElem_cons_succ, List.setIfInBounds_toArray, List.set_cons_succ, List.set_cons_zero]
  refine wpAnyH_take (i := 4) (v := .int .i64 hi) rfl (by kernel_rfl) (by kernel_rfl) (by kernel_rfl) (fun _ _ _ h => h) (yieldsIf_cell (by rfl) 2 (.tmp 2) rfl ⟨q, 0, none⟩ rfl _ Try.isAgg2 (fun _ h => blk_first h.2.1)) hS ?_
  simp only [Act.put, List.getElem_toArray, List.getElem_cons_zero, List.getElem_cons_succ, List.setIfInBounds_toArray, List.set_cons_succ, List.set_cons_zero]
  refine wpAnyH_ready (rs := [2]) (by kernel_rfl) (by simp) ?_
  refine AllReadyH.cons rfl (fun Kq hK => ?_) AllReadyH.nil
  go_simp
  have K9 := Lib.hid (Blk.new wd 2 #[.int .i64 n])
  refine hK.out _ _ ⟨hS.1.alloc _, hS.2.1.alloc _, hS.2.2.alloc hS.2.2.size (.cells #[.int .i64 n] 2)⟩ (fun hS => ?_)
  clear hK Kq
  try simp only [Act.put, List.getElem_toArray, List.getElem_cons_zero, List.getElem_cons_succ, List.setIfInBounds_toArray, List.set_cons_succ, List.set_cons_zero]
  refine wpAnyH_ready (rs := [3]) (by kernel_rfl) (by simp) ?_
  refine AllReadyH.cons rfl (fun Kq hK => ?_) AllReadyH.nil
  go_simp
  with_reducible refine (gr_i64 lo n _ _ (blk_first K9.out)).mono ?_
  rintro e x1 ⟨rfl, rfl⟩
  refine hK.out _ _ hS (fun hS => ?_)
  clear hK Kq
  try simp only [Act.put, List.getElem_toArray, List.getElem_cons_zero, List.getElem_cons_succ, List.setIfInBounds_toArray, List.set_cons_succ, List.set_cons_zero]
  try rw [hx]
  refine wpAnyH_take (i := 5) (v := .int .i64 y) rfl (by kernel_rfl) (by kernel_rfl) (by kernel_rfl) (fun _ _ _ h => h) (Or.inl ⟨by rfl, fun W _ => by go_simp; try with_reducible rfl⟩) hS ?_
  simp only [Act.put, List.getElem_toArray, List.getElem_cons_zero, List.getElem_cons_succ, List.setIfInBounds_toArray, List.set_cons_succ, List.set_cons_zero]
  refine wpAnyH_ready (rs := [6]) (by kernel_rfl) (by simp) ?_
  refine AllReadyH.cons rfl (fun Kq hK => ?_) AllReadyH.nil
  go_simp
  refine hK.out _ _ hS (fun hS => ?_)
  clear hK Kq
  refine wpAnyH_done (by kernel_rfl) ?_ _
  go_wp2_with fail
  go_ret
  exact ⟨rfl, hS.2.2⟩
theorem pHeld_f (f : Int) (w : World) : Calls Try.prog 27 #[.int .i64 f] w fun e w' => e = .returned (.int .i64 (heldF f)) ∧ Below w.heap.size w w' := by
  have hr : heldF f = min (max 0 f) 2100000000000000 := by unfold heldF; omega
  rw [hr]
  obtain ⟨x, hx⟩ : ∃ x, min (max 0 f) 2100000000000000 = x := ⟨_, rfl⟩
  have H1 := Lib.hid (fun p q W h1 h2 => pWithin1 f 0 2100000000000000 p q W h1 h2)
  rw [hx] at H1
  rw [hx]
  clear hx hr
  go_enter Try.func27, Try.ntmps27
  go_wp2_with fail
  with_reducible refine (pWithin _ _ _).mono ?_
  rintro e w1 ⟨rfl, k1, k2, b1⟩
  have K1 := Lib.hid k1
  have K2 := Lib.hid k2
  have B1 := Lib.hid b1
  clear k1 k2 b1
  go_wp2_with fail
  with_reducible refine (H1.out _ _ _ K1.out K2.out).mono ?_
  rintro e w2 ⟨rfl, b2⟩
  have B2 := Lib.hid (B1.out.trans (b2.mono B1.out.size))
  clear b2
  go_wp2_with fail
  go_ret
  exact ⟨rfl, B2.out⟩
set_option maxRecDepth 20000 in
theorem pDue_f (a : TxA) (w : World) (hf : Few a.T) : Calls Try.prog 46 #[.agg a.cells.toArray] w fun e w' => e = .returned (.int .i64 (dueF a.T : Nat)) ∧ Below w.heap.size w w' := by
  have K1 := Lib.hid (Blk.new w 29 a.cells.toArray)
  have B1 := Lib.hid ((Below.refl w.heap.size w).alloc (Nat.le_refl _) (.cells a.cells.toArray 29))
  have HA := Lib.hid (fun W => pAct_f a W hf)
  obtain ⟨n, hn⟩ : ∃ n : Int, ((actF a.T : Nat) : Int) = n := ⟨_, rfl⟩
  obtain ⟨x, hx⟩ : ∃ x : Int, max 2 n = x := ⟨_, rfl⟩
  have hr : ((dueF a.T : Nat) : Int) = x := by unfold dueF; omega
  rw [hr]
  rw [hn] at HA
  have HG := Lib.hid (fun g W h => gr_int 2 n g W h)
  rw [hx] at HG
  clear hf hr hx hn
  go_enter Try.func46, Try.ntmps46
  go_wp2_with ((with_reducible refine at_load 1 ?_); refine tyTx.wpList_load rfl (.tmp 1) rfl w.heap.size 0 rfl a (RowC.of_blk K1.out) ?_)
  refine (HA.out _).mono ?_
  rintro e w1 ⟨rfl, b1⟩
  have B2 := Lib.hid (B1.out.trans (b1.mono B1.out.size))
  clear b1
  go_wp2_with fail
  with_reducible refine (HG.out _ _ (blk_first (Blk.new _ 3 _))).mono ?_
  rintro e w2 ⟨rfl, rfl⟩
  go_wp2_with fail
  go_ret
  exact ⟨rfl, B2.out.alloc B2.out.size _⟩
theorem pConv_f : ConvOk := by
  intro a w hf
  have K1 := Lib.hid (Blk.new w 29 a.cells.toArray)
  have B1 := Lib.hid ((Below.refl w.heap.size w).alloc (Nat.le_refl _) (.cells a.cells.toArray 29))
  have HA := Lib.hid (fun W => pDue_f a W hf)
  have hd := hf.due
  obtain ⟨n, hn⟩ : ∃ n : Int, ((dueF a.T : Nat) : Int) = n := ⟨_, rfl⟩
  have hr : convF a.T = 5000 * n := by unfold convF; rw [hn]
  have h1 : IntKind.i64.wrap (5000 * n) = 5000 * n := by rw [IntKind.wrap_i64]; omega
  rw [hr]
  rw [hn] at HA
  clear hf hr hn hd
  go_enter Try.func28, Try.ntmps28
  go_wp2_with ((with_reducible refine at_load 1 ?_); refine tyTx.wpList_load rfl (.tmp 1) rfl w.heap.size 0 rfl a (RowC.of_blk K1.out) ?_)
  refine (HA.out _).mono ?_
  rintro e w1 ⟨rfl, b1⟩
  have B2 := Lib.hid (B1.out.trans (b1.mono B1.out.size))
  clear b1
  go_wp2_with fail
  go_ret
  exact ⟨rfl, B2.out⟩
theorem pPays_f : PaysOk := by
  intro a f w hf _
  have K1 := Lib.hid (Blk.new w 29 a.cells.toArray)
  have B1 := Lib.hid ((Below.refl w.heap.size w).alloc (Nat.le_refl _) (.cells a.cells.toArray 29))
  have HC := Lib.hid (fun W => pConv_f a W hf)
  have HH := Lib.hid (fun W => pHeld_f f W)
  obtain ⟨c, hc⟩ : ∃ c, convF a.T = c := ⟨_, rfl⟩
  obtain ⟨k, hk⟩ : ∃ k, heldF f = k := ⟨_, rfl⟩
  rw [hk] at HH
  rw [hc] at HC
  obtain ⟨q, hq⟩ : ∃ q, decide (c ≤ k) = q := ⟨_, rfl⟩
  have hr : paysF a.T f = q := by unfold paysF; rw [hc, hk, hq]
  rw [hr]
  clear hr hf hk hc
  go_enter Try.func22, Try.ntmps22
  go_wp2_with fail
  have RT := Lib.hid (show ∀ W, From (w.alloc (.cells a.cells.toArray 29)) W → RowC W w.heap.size 0 a.cells from fun W hC => RowC.of_blk (below_blk hC.below K1.out K1.out.lt))
  refine wp_region_from (by kernel_rfl) (by kernel_rfl) ?_
  repeat (first
    | go_big_quiet_skip
    | ((with_reducible refine at_qload 2 ?_); refine tyTx.wpQuiet_load (by rfl) (.tmp 2) rfl w.heap.size 0 rfl a RT.out ?_; simp only [Act.put, List.setIfInBounds_toArray, List.set_cons_succ, List.set_cons_zero])
    | (go_big_quiet_want; go_big_quiet_op; refine ⟨_, fun _ _ => by with_reducible rfl, ?_⟩; go_big_quiet_on)
    | go_big_quiet_step ((intro hC; first
      | (go_at_call 27; with_reducible exact (HH.out _).mono fun _ _ h => ⟨h.1, hC.call h.2⟩)
      | (go_at_call 28; with_reducible exact (HC.out _).mono fun _ _ h => ⟨h.1, hC.call h.2⟩))))
  refine wpQuiet_nil ?_
  intro w9 hC
  have B9 := Lib.hid (B1.out.trans (hC.below.mono B1.out.size))
  clear hC RT
  go_wp2_with fail
  go_ret
  exact ⟨rfl, B9.out⟩
end Go.Proofs.Ytpoejbfcioijhaa
