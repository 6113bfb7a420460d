import Derived.Test.YtnpmpeoojncjhaaGreatDoorZQf
set_option maxRecDepth 100000
set_option maxHeartbeats 16000000
namespace Go.Proofs.YtnpmpeoojncjhaaGreatDoor
section
open Go.RowKit
theorem Ny {w : World} {g base : Nat} (hb : ax w g 92 #[]) (hg : base ≤ g) : w.ownsRow base 92 38 (.slice (some ⟨g, 0, none⟩) 0 0) ([] : List aY).length (cellsOf aY.cells []) :=
 ⟨by simp [cellsOf], .inr ⟨g, 0, #[], rfl, hg, hb, Nat.le_refl _, Nat.zero_le _, by simp, by simp [cellsOf]⟩⟩
theorem JJ (d : CA) (z : aQ .u64) (w : World) (hd : d.c.In w w.heap.size) (hn : kE d.c.C) :
 Calls Tryz.prog 53 #[.agg (aA z).toArray, .agg d.cells.toArray, .slice none 0 0] w fun e w' => e = .returned (.agg (aA z).toArray) ∧ Below w.heap.size w w' := by
 obtain ⟨Zp, hZp, hzp, XN, aaN⟩ := bB (show ((Tryz.prog.info? 50).bind (·.zero)) = some (.agg (aA z0).toArray) by kernel_rfl) (show (aA z0).toArray.size = 2 + 1 from rfl)
 obtain ⟨Zw, hZw, hzw, XM, aaM⟩ := bB (show ((Tryz.prog.info? 137).bind (·.zero)) = some (.agg yD.cells.toArray) by kernel_rfl) (show yD.cells.toArray.size = 6 + 1 from rfl)
 have HS := qh (And.intro XN XM)
 clear hZp XN hZw XM
 have H0 := qh (show Holds w [(w.heap.size + 2, 50, Zp), (w.heap.size + 1, 45, d.cells.toArray), (w.heap.size, 50, (aA z).toArray)] (((w.alloc (.cells (aA z).toArray 50)).alloc (.cells d.cells.toArray 45)).alloc (.cells Zp 50)) from by
  have := (((Holds.nil w).box 50 (aA z).toArray).box 45 d.cells.toArray).box 50 Zp
  simpa only [World.size_alloc, Nat.add_assoc] using this)
 have ST := qh (fun V (hb : Below w.heap.size w V) => yf d V ((hd.below hb).more hb.size) hn)
 have TX := qh (fun V => Cg z V)
 clear hd hn
 go_enter Tryz.func53, Tryz.ntmps53
 go_wp2_with fail
 go_cut [7, 8] from 18 to 26 (fun v7 v8 wc => ∃ g7 g8 : Nat, v7 = .pointer (some ⟨g7, 0, none⟩) ∧ v8 = .pointer (some ⟨g8, 0, none⟩) ∧ Hid (Holds w [(g7, 50, (aA z).toArray), (w.heap.size + 2, 50, Zp), (w.heap.size + 1, 45, d.cells.toArray), (w.heap.size, 50, (aA z).toArray)] wc))
 case first =>
  refine wp_region_held_drew (S := Holds w [(w.heap.size + 2, 50, Zp), (w.heap.size + 1, 45, d.cells.toArray), (w.heap.size, 50, (aA z).toArray)]) (by kernel_rfl) (H0.out.call (Below.refl _ _).drew) ?_
  intro hS
  have HH := qh hS
  clear H0
  generalize World.drew _ = wd at hS HH ⊢
  have LT := qh (show w.heap.size + 2 < wd.heap.size from (HH.out.b (w.heap.size + 2) (50) (Zp) (by simp)).lt)
  have DD := qh (Nat.le_refl wd.heap.size)
  refine tkp 0 (.pointer (some ⟨w.heap.size, 1, none⟩)) rfl hS ?_
  go_simp
  refine tk 1 (.slice none 0 0) rfl (bJ (by rfl) 47 (.tmp 18) rfl ⟨w.heap.size, 1, none⟩ rfl _ Tryz.isAgg47 (fun _ h => (au.ah (h.b (w.heap.size) (50) ((aA z).toArray) (by simp))).tail.head)) hS ?_
  go_simp
  refine tkp 3 (.pointer (some ⟨w.heap.size, 2, none⟩)) rfl hS ?_
  go_simp
  refine tk 4 (.int .u64 z.1) rfl (bJ (by rfl) 48 (.tmp 21) rfl ⟨w.heap.size, 2, none⟩ rfl _ Tryz.isAgg48 (fun _ h => (au.ah (h.b (w.heap.size) (50) ((aA z).toArray) (by simp))).tail.tail.head)) hS ?_
  go_simp
  refine tk 6 (.agg d.cells.toArray) rfl (cO.aB (by rfl) (.tmp 4) rfl (w.heap.size + 1) 0 rfl d (fun _ h => au.ah (h.b (w.heap.size + 1) (45) (d.cells.toArray) (by simp)))) hS ?_
  go_simp
  refine wpAnyH_ready (rs := [2, 8, 9]) (by kernel_rfl) (by simp) ?_
  refine (AllReadyH.cons rfl (fun Kq hK => ?_) (AllReadyH.cons rfl (fun Kq hK => ?_) (AllReadyH.cons rfl (fun Kq hK => ?_) AllReadyH.nil)))
  ·go_simp
   with_reducible refine (nQ _).mono ?_
   rintro e x1 ⟨rfl, hV⟩
   rw [hV]
   clear hV
   refine hK.out _ _ hS (fun hS => ?_)
   clear hK Kq
   go_simp
   refine tk 5 (.agg (aA z).toArray) rfl (bH (by rfl) 50 #[(1, .tmp 20), (2, .tmp 22)] rfl (aA z).toArray (by kernel_rfl)) hS ?_
   go_simp
   refine wpAnyH_ready (rs := [7, 8, 9]) (by kernel_rfl) (by simp) ?_
   refine (AllReadyH.cons rfl (fun Kq hK => ?_) (AllReadyH.cons rfl (fun Kq hK => ?_) (AllReadyH.cons rfl (fun Kq hK => ?_) AllReadyH.nil)))
   ·go_simp
    with_reducible refine (ST.out _ HH.out.below).mono ?_
    rintro e x2 ⟨y, hy, rfl, oy, bq⟩
    have HN := qh (HH.out.call bq)
    have DN := qh (Nat.le_trans DD.out bq.size)
    clear hy oy bq
    refine hK.out _ _ (HN.out.os) (fun hS => ?_)
    clear hK Kq HH
    have HH := HN
    clear HN
    clear DD
    have DD := DN
    clear DN
    go_simp
    refine rd2 8 9 rfl (fun Kq hK => ?_) rfl (fun Kq hK => ?_)
    ·go_simp
     have HN := qh (show Holds w ((x2.heap.size, 50, Zp) :: [(w.heap.size + 2, 50, Zp), (w.heap.size + 1, 45, d.cells.toArray), (w.heap.size, 50, (aA z).toArray)]) (x2.alloc (.cells Zp 50)) from HH.out.box 50 Zp)
     have DN := qh (show wd.heap.size ≤ (x2.alloc (.cells Zp 50)).heap.size by have := DD.out; rw [World.size_alloc]; omega)
     refine hK.out _ _ (HN.out.os) (fun hS => ?_)
     clear hK Kq HH
     have HH := HN
     clear HN
     obtain ⟨g7, hg, hd, _⟩ : ∃ g, x2.heap.size = g ∧ wd.heap.size ≤ g ∧ True := ⟨_, rfl, DD.out, trivial⟩
     obtain ⟨x3, hV⟩ : ∃ V, x2.alloc (.cells Zp 50) = V := ⟨_, rfl⟩
     rw [hV] at HH DN hS ⊢
     clear hV DD
     have DD := DN
     clear DN
     rw [hg] at HH ⊢
     clear hg
     have D7 := qh hd
     clear hd
     go_simp
     refine rd 9 rfl (fun Kq hK => ?_)
     go_simp
     have HN := qh (show Holds w ((x3.heap.size, 137, Zw) :: [(g7, 50, Zp), (w.heap.size + 2, 50, Zp), (w.heap.size + 1, 45, d.cells.toArray), (w.heap.size, 50, (aA z).toArray)]) (x3.alloc (.cells Zw 137)) from HH.out.box 137 Zw)
     have DN := qh (show wd.heap.size ≤ (x3.alloc (.cells Zw 137)).heap.size by have := DD.out; rw [World.size_alloc]; omega)
     have NN := qh (show g7 ≠ x3.heap.size from Nat.ne_of_lt (HH.out.b g7 (50) (Zp) (by simp)).lt)
     refine hK.out _ _ (HN.out.os) (fun hS => ?_)
     clear hK Kq HH
     have HH := HN
     clear HN
     obtain ⟨g8, hg, hd, hne⟩ : ∃ g, x3.heap.size = g ∧ wd.heap.size ≤ g ∧ g7 ≠ g := ⟨_, rfl, DD.out, NN.out⟩
     obtain ⟨x4, hV⟩ : ∃ V, x3.alloc (.cells Zw 137) = V := ⟨_, rfl⟩
     rw [hV] at HH DN hS ⊢
     clear hV DD
     have DD := DN
     clear DN
     rw [hg] at HH ⊢
     clear hg NN
     have D8 := qh hd
     have NE := qh hne
     clear hd hne
     go_simp
     refine rd 10 rfl (fun Kq hK => ?_)
     refine j5.aH rfl (.tmp 7) (.tmp 23) rfl rfl g7 z rfl rfl 50 _ (HH.out.b g7 (50) (Zp) (by simp)) (by rw [HS.out.1]) ?_
     intro w8 o8 b8
     have H8 := qh (show Holds w [(g7, 50, (aA z).toArray), (g8, 137, Zw), (w.heap.size + 2, 50, Zp), (w.heap.size + 1, 45, d.cells.toArray), (w.heap.size, 50, (aA z).toArray)] w8 from (HH.out.os (L' := (g7, 50, Zp) :: [(g8, 137, Zw), (w.heap.size + 2, 50, Zp), (w.heap.size + 1, 45, d.cells.toArray), (w.heap.size, 50, (aA z).toArray)])).turn o8 b8 (by have := D7.out; have := LT.out; omega) (fun x hx => by
      have := D7.out
      have := NE.out
      have := LT.out
      simp only [List.mem_cons, List.not_mem_nil, or_false] at hx
      rcases hx with rfl | rfl | rfl | rfl <;> simp only <;> omega))
     refine hK.out _ _ (H8.out.os) (fun hS => ?_)
     clear hK Kq
     go_simp
     refine rd 11 rfl (fun Kq hK => ?_)
     refine pJ.aH rfl (.tmp 8) (.tmp 25) rfl rfl g8 (aP y) rfl rfl 137 _ (H8.out.b g8 (137) (Zw) (by simp)) (by rw [HS.out.2]) ?_
     intro w9 o9 b9
     have H9 := qh (show Holds w [(g8, 137, (aP y).cells.toArray), (g7, 50, (aA z).toArray), (w.heap.size + 2, 50, Zp), (w.heap.size + 1, 45, d.cells.toArray), (w.heap.size, 50, (aA z).toArray)] w9 from (H8.out.os (L' := (g8, 137, Zw) :: [(g7, 50, (aA z).toArray), (w.heap.size + 2, 50, Zp), (w.heap.size + 1, 45, d.cells.toArray), (w.heap.size, 50, (aA z).toArray)])).turn o9 b9 (by have := D8.out; have := LT.out; omega) (fun x hx => by
      have := D8.out
      have := NE.out
      have := LT.out
      simp only [List.mem_cons, List.not_mem_nil, or_false] at hx
      rcases hx with rfl | rfl | rfl | rfl <;> simp only <;> omega))
     refine hK.out _ _ (H9.out.os) (fun hS => ?_)
     clear hK Kq
     refine wpAnyH_done (by kernel_rfl) ?_ _
     go_wp2_with fail
     go_meet
     exact ⟨g7, g8, rfl, rfl, qh (H9.out.os)⟩
    ·go_simp
     have HN := qh (show Holds w ((x2.heap.size, 137, Zw) :: [(w.heap.size + 2, 50, Zp), (w.heap.size + 1, 45, d.cells.toArray), (w.heap.size, 50, (aA z).toArray)]) (x2.alloc (.cells Zw 137)) from HH.out.box 137 Zw)
     have DN := qh (show wd.heap.size ≤ (x2.alloc (.cells Zw 137)).heap.size by have := DD.out; rw [World.size_alloc]; omega)
     refine hK.out _ _ (HN.out.os) (fun hS => ?_)
     clear hK Kq HH
     have HH := HN
     clear HN
     obtain ⟨g8, hg, hd, _⟩ : ∃ g, x2.heap.size = g ∧ wd.heap.size ≤ g ∧ True := ⟨_, rfl, DD.out, trivial⟩
     obtain ⟨x3, hV⟩ : ∃ V, x2.alloc (.cells Zw 137) = V := ⟨_, rfl⟩
     rw [hV] at HH DN hS ⊢
     clear hV DD
     have DD := DN
     clear DN
     rw [hg] at HH ⊢
     clear hg
     have D8 := qh hd
     clear hd
     go_simp
     refine rd 8 rfl (fun Kq hK => ?_)
     go_simp
     have HN := qh (show Holds w ((x3.heap.size, 50, Zp) :: [(g8, 137, Zw), (w.heap.size + 2, 50, Zp), (w.heap.size + 1, 45, d.cells.toArray), (w.heap.size, 50, (aA z).toArray)]) (x3.alloc (.cells Zp 50)) from HH.out.box 50 Zp)
     have DN := qh (show wd.heap.size ≤ (x3.alloc (.cells Zp 50)).heap.size by have := DD.out; rw [World.size_alloc]; omega)
     have NN := qh (show g8 ≠ x3.heap.size from Nat.ne_of_lt (HH.out.b g8 (137) (Zw) (by simp)).lt)
     refine hK.out _ _ (HN.out.os) (fun hS => ?_)
     clear hK Kq HH
     have HH := HN
     clear HN
     obtain ⟨g7, hg, hd, hne⟩ : ∃ g, x3.heap.size = g ∧ wd.heap.size ≤ g ∧ g8 ≠ g := ⟨_, rfl, DD.out, NN.out⟩
     obtain ⟨x4, hV⟩ : ∃ V, x3.alloc (.cells Zp 50) = V := ⟨_, rfl⟩
     rw [hV] at HH DN hS ⊢
     clear hV DD
     have DD := DN
     clear DN
     rw [hg] at HH ⊢
     clear hg NN
     have D7 := qh hd
     have NE := qh hne
     clear hd hne
     go_simp
     refine rd 10 rfl (fun Kq hK => ?_)
     refine j5.aH rfl (.tmp 7) (.tmp 23) rfl rfl g7 z rfl rfl 50 _ (HH.out.b g7 (50) (Zp) (by simp)) (by rw [HS.out.1]) ?_
     intro w8 o8 b8
     have H8 := qh (show Holds w [(g7, 50, (aA z).toArray), (g8, 137, Zw), (w.heap.size + 2, 50, Zp), (w.heap.size + 1, 45, d.cells.toArray), (w.heap.size, 50, (aA z).toArray)] w8 from (HH.out.os (L' := (g7, 50, Zp) :: [(g8, 137, Zw), (w.heap.size + 2, 50, Zp), (w.heap.size + 1, 45, d.cells.toArray), (w.heap.size, 50, (aA z).toArray)])).turn o8 b8 (by have := D7.out; have := LT.out; omega) (fun x hx => by
      have := D7.out
      have := NE.out
      have := LT.out
      simp only [List.mem_cons, List.not_mem_nil, or_false] at hx
      rcases hx with rfl | rfl | rfl | rfl <;> simp only <;> omega))
     refine hK.out _ _ (H8.out.os) (fun hS => ?_)
     clear hK Kq
     go_simp
     refine rd 11 rfl (fun Kq hK => ?_)
     refine pJ.aH rfl (.tmp 8) (.tmp 25) rfl rfl g8 (aP y) rfl rfl 137 _ (H8.out.b g8 (137) (Zw) (by simp)) (by rw [HS.out.2]) ?_
     intro w9 o9 b9
     have H9 := qh (show Holds w [(g8, 137, (aP y).cells.toArray), (g7, 50, (aA z).toArray), (w.heap.size + 2, 50, Zp), (w.heap.size + 1, 45, d.cells.toArray), (w.heap.size, 50, (aA z).toArray)] w9 from (H8.out.os (L' := (g8, 137, Zw) :: [(g7, 50, (aA z).toArray), (w.heap.size + 2, 50, Zp), (w.heap.size + 1, 45, d.cells.toArray), (w.heap.size, 50, (aA z).toArray)])).turn o9 b9 (by have := D8.out; have := LT.out; omega) (fun x hx => by
      have := D8.out
      have := NE.out
      have := LT.out
      simp only [List.mem_cons, List.not_mem_nil, or_false] at hx
      rcases hx with rfl | rfl | rfl | rfl <;> simp only <;> omega))
     refine hK.out _ _ (H9.out.os) (fun hS => ?_)
     clear hK Kq
     refine wpAnyH_done (by kernel_rfl) ?_ _
     go_wp2_with fail
     go_meet
     exact ⟨g7, g8, rfl, rfl, qh (H9.out.os)⟩
   ·go_simp
    have HN := qh (show Holds w ((wd.heap.size, 50, Zp) :: [(w.heap.size + 2, 50, Zp), (w.heap.size + 1, 45, d.cells.toArray), (w.heap.size, 50, (aA z).toArray)]) (wd.alloc (.cells Zp 50)) from HH.out.box 50 Zp)
    have DN := qh (show wd.heap.size ≤ (wd.alloc (.cells Zp 50)).heap.size by have := DD.out; rw [World.size_alloc]; omega)
    refine hK.out _ _ (HN.out.os) (fun hS => ?_)
    clear hK Kq HH
    have HH := HN
    clear HN
    obtain ⟨g7, hg, hd, _⟩ : ∃ g, wd.heap.size = g ∧ wd.heap.size ≤ g ∧ True := ⟨_, rfl, DD.out, trivial⟩
    obtain ⟨x2, hV⟩ : ∃ V, wd.alloc (.cells Zp 50) = V := ⟨_, rfl⟩
    rw [hV] at HH DN hS ⊢
    clear hV DD
    have DD := DN
    clear DN
    rw [hg] at HH ⊢
    clear hg
    have D7 := qh hd
    clear hd
    go_simp
    refine rd2 7 9 rfl (fun Kq hK => ?_) rfl (fun Kq hK => ?_)
    ·go_simp
     with_reducible refine (ST.out _ HH.out.below).mono ?_
     rintro e x3 ⟨y, hy, rfl, oy, bq⟩
     have HN := qh (HH.out.call bq)
     have DN := qh (Nat.le_trans DD.out bq.size)
     clear hy oy bq
     refine hK.out _ _ (HN.out.os) (fun hS => ?_)
     clear hK Kq HH
     have HH := HN
     clear HN
     clear DD
     have DD := DN
     clear DN
     go_simp
     refine rd 9 rfl (fun Kq hK => ?_)
     go_simp
     have HN := qh (show Holds w ((x3.heap.size, 137, Zw) :: [(g7, 50, Zp), (w.heap.size + 2, 50, Zp), (w.heap.size + 1, 45, d.cells.toArray), (w.heap.size, 50, (aA z).toArray)]) (x3.alloc (.cells Zw 137)) from HH.out.box 137 Zw)
     have DN := qh (show wd.heap.size ≤ (x3.alloc (.cells Zw 137)).heap.size by have := DD.out; rw [World.size_alloc]; omega)
     have NN := qh (show g7 ≠ x3.heap.size from Nat.ne_of_lt (HH.out.b g7 (50) (Zp) (by simp)).lt)
     refine hK.out _ _ (HN.out.os) (fun hS => ?_)
     clear hK Kq HH
     have HH := HN
     clear HN
     obtain ⟨g8, hg, hd, hne⟩ : ∃ g, x3.heap.size = g ∧ wd.heap.size ≤ g ∧ g7 ≠ g := ⟨_, rfl, DD.out, NN.out⟩
     obtain ⟨x4, hV⟩ : ∃ V, x3.alloc (.cells Zw 137) = V := ⟨_, rfl⟩
     rw [hV] at HH DN hS ⊢
     clear hV DD
     have DD := DN
     clear DN
     rw [hg] at HH ⊢
     clear hg NN
     have D8 := qh hd
     have NE := qh hne
     clear hd hne
     go_simp
     refine rd 10 rfl (fun Kq hK => ?_)
     refine j5.aH rfl (.tmp 7) (.tmp 23) rfl rfl g7 z rfl rfl 50 _ (HH.out.b g7 (50) (Zp) (by simp)) (by rw [HS.out.1]) ?_
     intro w8 o8 b8
     have H8 := qh (show Holds w [(g7, 50, (aA z).toArray), (g8, 137, Zw), (w.heap.size + 2, 50, Zp), (w.heap.size + 1, 45, d.cells.toArray), (w.heap.size, 50, (aA z).toArray)] w8 from (HH.out.os (L' := (g7, 50, Zp) :: [(g8, 137, Zw), (w.heap.size + 2, 50, Zp), (w.heap.size + 1, 45, d.cells.toArray), (w.heap.size, 50, (aA z).toArray)])).turn o8 b8 (by have := D7.out; have := LT.out; omega) (fun x hx => by
      have := D7.out
      have := NE.out
      have := LT.out
      simp only [List.mem_cons, List.not_mem_nil, or_false] at hx
      rcases hx with rfl | rfl | rfl | rfl <;> simp only <;> omega))
     refine hK.out _ _ (H8.out.os) (fun hS => ?_)
     clear hK Kq
     go_simp
     refine rd 11 rfl (fun Kq hK => ?_)
     refine pJ.aH rfl (.tmp 8) (.tmp 25) rfl rfl g8 (aP y) rfl rfl 137 _ (H8.out.b g8 (137) (Zw) (by simp)) (by rw [HS.out.2]) ?_
     intro w9 o9 b9
     have H9 := qh (show Holds w [(g8, 137, (aP y).cells.toArray), (g7, 50, (aA z).toArray), (w.heap.size + 2, 50, Zp), (w.heap.size + 1, 45, d.cells.toArray), (w.heap.size, 50, (aA z).toArray)] w9 from (H8.out.os (L' := (g8, 137, Zw) :: [(g7, 50, (aA z).toArray), (w.heap.size + 2, 50, Zp), (w.heap.size + 1, 45, d.cells.toArray), (w.heap.size, 50, (aA z).toArray)])).turn o9 b9 (by have := D8.out; have := LT.out; omega) (fun x hx => by
      have := D8.out
      have := NE.out
      have := LT.out
      simp only [List.mem_cons, List.not_mem_nil, or_false] at hx
      rcases hx with rfl | rfl | rfl | rfl <;> simp only <;> omega))
     refine hK.out _ _ (H9.out.os) (fun hS => ?_)
     clear hK Kq
     refine wpAnyH_done (by kernel_rfl) ?_ _
     go_wp2_with fail
     go_meet
     exact ⟨g7, g8, rfl, rfl, qh (H9.out.os)⟩
    ·go_simp
     have HN := qh (show Holds w ((x2.heap.size, 137, Zw) :: [(g7, 50, Zp), (w.heap.size + 2, 50, Zp), (w.heap.size + 1, 45, d.cells.toArray), (w.heap.size, 50, (aA z).toArray)]) (x2.alloc (.cells Zw 137)) from HH.out.box 137 Zw)
     have DN := qh (show wd.heap.size ≤ (x2.alloc (.cells Zw 137)).heap.size by have := DD.out; rw [World.size_alloc]; omega)
     have NN := qh (show g7 ≠ x2.heap.size from Nat.ne_of_lt (HH.out.b g7 (50) (Zp) (by simp)).lt)
     refine hK.out _ _ (HN.out.os) (fun hS => ?_)
     clear hK Kq HH
     have HH := HN
     clear HN
     obtain ⟨g8, hg, hd, hne⟩ : ∃ g, x2.heap.size = g ∧ wd.heap.size ≤ g ∧ g7 ≠ g := ⟨_, rfl, DD.out, NN.out⟩
     obtain ⟨x3, hV⟩ : ∃ V, x2.alloc (.cells Zw 137) = V := ⟨_, rfl⟩
     rw [hV] at HH DN hS ⊢
     clear hV DD
     have DD := DN
     clear DN
     rw [hg] at HH ⊢
     clear hg NN
     have D8 := qh hd
     have NE := qh hne
     clear hd hne
     go_simp
     refine rd 7 rfl (fun Kq hK => ?_)
     go_simp
     with_reducible refine (ST.out _ HH.out.below).mono ?_
     rintro e x4 ⟨y, hy, rfl, oy, bq⟩
     have HN := qh (HH.out.call bq)
     have DN := qh (Nat.le_trans DD.out bq.size)
     clear hy oy bq
     refine hK.out _ _ (HN.out.os) (fun hS => ?_)
     clear hK Kq HH
     have HH := HN
     clear HN
     clear DD
     have DD := DN
     clear DN
     go_simp
     refine rd 10 rfl (fun Kq hK => ?_)
     refine j5.aH rfl (.tmp 7) (.tmp 23) rfl rfl g7 z rfl rfl 50 _ (HH.out.b g7 (50) (Zp) (by simp)) (by rw [HS.out.1]) ?_
     intro w8 o8 b8
     have H8 := qh (show Holds w [(g7, 50, (aA z).toArray), (g8, 137, Zw), (w.heap.size + 2, 50, Zp), (w.heap.size + 1, 45, d.cells.toArray), (w.heap.size, 50, (aA z).toArray)] w8 from (HH.out.os (L' := (g7, 50, Zp) :: [(g8, 137, Zw), (w.heap.size + 2, 50, Zp), (w.heap.size + 1, 45, d.cells.toArray), (w.heap.size, 50, (aA z).toArray)])).turn o8 b8 (by have := D7.out; have := LT.out; omega) (fun x hx => by
      have := D7.out
      have := NE.out
      have := LT.out
      simp only [List.mem_cons, List.not_mem_nil, or_false] at hx
      rcases hx with rfl | rfl | rfl | rfl <;> simp only <;> omega))
     refine hK.out _ _ (H8.out.os) (fun hS => ?_)
     clear hK Kq
     go_simp
     refine rd 11 rfl (fun Kq hK => ?_)
     refine pJ.aH rfl (.tmp 8) (.tmp 25) rfl rfl g8 (aP y) rfl rfl 137 _ (H8.out.b g8 (137) (Zw) (by simp)) (by rw [HS.out.2]) ?_
     intro w9 o9 b9
     have H9 := qh (show Holds w [(g8, 137, (aP y).cells.toArray), (g7, 50, (aA z).toArray), (w.heap.size + 2, 50, Zp), (w.heap.size + 1, 45, d.cells.toArray), (w.heap.size, 50, (aA z).toArray)] w9 from (H8.out.os (L' := (g8, 137, Zw) :: [(g7, 50, (aA z).toArray), (w.heap.size + 2, 50, Zp), (w.heap.size + 1, 45, d.cells.toArray), (w.heap.size, 50, (aA z).toArray)])).turn o9 b9 (by have := D8.out; have := LT.out; omega) (fun x hx => by
      have := D8.out
      have := NE.out
      have := LT.out
      simp only [List.mem_cons, List.not_mem_nil, or_false] at hx
      rcases hx with rfl | rfl | rfl | rfl <;> simp only <;> omega))
     refine hK.out _ _ (H9.out.os) (fun hS => ?_)
     clear hK Kq
     refine wpAnyH_done (by kernel_rfl) ?_ _
     go_wp2_with fail
     go_meet
     exact ⟨g7, g8, rfl, rfl, qh (H9.out.os)⟩
   ·go_simp
    have HN := qh (show Holds w ((wd.heap.size, 137, Zw) :: [(w.heap.size + 2, 50, Zp), (w.heap.size + 1, 45, d.cells.toArray), (w.heap.size, 50, (aA z).toArray)]) (wd.alloc (.cells Zw 137)) from HH.out.box 137 Zw)
    have DN := qh (show wd.heap.size ≤ (wd.alloc (.cells Zw 137)).heap.size by have := DD.out; rw [World.size_alloc]; omega)
    refine hK.out _ _ (HN.out.os) (fun hS => ?_)
    clear hK Kq HH
    have HH := HN
    clear HN
    obtain ⟨g8, hg, hd, _⟩ : ∃ g, wd.heap.size = g ∧ wd.heap.size ≤ g ∧ True := ⟨_, rfl, DD.out, trivial⟩
    obtain ⟨x2, hV⟩ : ∃ V, wd.alloc (.cells Zw 137) = V := ⟨_, rfl⟩
    rw [hV] at HH DN hS ⊢
    clear hV DD
    have DD := DN
    clear DN
    rw [hg] at HH ⊢
    clear hg
    have D8 := qh hd
    clear hd
    go_simp
    refine rd2 7 8 rfl (fun Kq hK => ?_) rfl (fun Kq hK => ?_)
    ·go_simp
     with_reducible refine (ST.out _ HH.out.below).mono ?_
     rintro e x3 ⟨y, hy, rfl, oy, bq⟩
     have HN := qh (HH.out.call bq)
     have DN := qh (Nat.le_trans DD.out bq.size)
     clear hy oy bq
     refine hK.out _ _ (HN.out.os) (fun hS => ?_)
     clear hK Kq HH
     have HH := HN
     clear HN
     clear DD
     have DD := DN
     clear DN
     go_simp
     refine rd 8 rfl (fun Kq hK => ?_)
     go_simp
     have HN := qh (show Holds w ((x3.heap.size, 50, Zp) :: [(g8, 137, Zw), (w.heap.size + 2, 50, Zp), (w.heap.size + 1, 45, d.cells.toArray), (w.heap.size, 50, (aA z).toArray)]) (x3.alloc (.cells Zp 50)) from HH.out.box 50 Zp)
     have DN := qh (show wd.heap.size ≤ (x3.alloc (.cells Zp 50)).heap.size by have := DD.out; rw [World.size_alloc]; omega)
     have NN := qh (show g8 ≠ x3.heap.size from Nat.ne_of_lt (HH.out.b g8 (137) (Zw) (by simp)).lt)
     refine hK.out _ _ (HN.out.os) (fun hS => ?_)
     clear hK Kq HH
     have HH := HN
     clear HN
     obtain ⟨g7, hg, hd, hne⟩ : ∃ g, x3.heap.size = g ∧ wd.heap.size ≤ g ∧ g8 ≠ g := ⟨_, rfl, DD.out, NN.out⟩
     obtain ⟨x4, hV⟩ : ∃ V, x3.alloc (.cells Zp 50) = V := ⟨_, rfl⟩
     rw [hV] at HH DN hS ⊢
     clear hV DD
     have DD := DN
     clear DN
     rw [hg] at HH ⊢
     clear hg NN
     have D7 := qh hd
     have NE := qh hne
     clear hd hne
     go_simp
     refine rd 10 rfl (fun Kq hK => ?_)
     refine j5.aH rfl (.tmp 7) (.tmp 23) rfl rfl g7 z rfl rfl 50 _ (HH.out.b g7 (50) (Zp) (by simp)) (by rw [HS.out.1]) ?_
     intro w8 o8 b8
     have H8 := qh (show Holds w [(g7, 50, (aA z).toArray), (g8, 137, Zw), (w.heap.size + 2, 50, Zp), (w.heap.size + 1, 45, d.cells.toArray), (w.heap.size, 50, (aA z).toArray)] w8 from (HH.out.os (L' := (g7, 50, Zp) :: [(g8, 137, Zw), (w.heap.size + 2, 50, Zp), (w.heap.size + 1, 45, d.cells.toArray), (w.heap.size, 50, (aA z).toArray)])).turn o8 b8 (by have := D7.out; have := LT.out; omega) (fun x hx => by
      have := D7.out
      have := NE.out
      have := LT.out
      simp only [List.mem_cons, List.not_mem_nil, or_false] at hx
      rcases hx with rfl | rfl | rfl | rfl <;> simp only <;> omega))
     refine hK.out _ _ (H8.out.os) (fun hS => ?_)
     clear hK Kq
     go_simp
     refine rd 11 rfl (fun Kq hK => ?_)
     refine pJ.aH rfl (.tmp 8) (.tmp 25) rfl rfl g8 (aP y) rfl rfl 137 _ (H8.out.b g8 (137) (Zw) (by simp)) (by rw [HS.out.2]) ?_
     intro w9 o9 b9
     have H9 := qh (show Holds w [(g8, 137, (aP y).cells.toArray), (g7, 50, (aA z).toArray), (w.heap.size + 2, 50, Zp), (w.heap.size + 1, 45, d.cells.toArray), (w.heap.size, 50, (aA z).toArray)] w9 from (H8.out.os (L' := (g8, 137, Zw) :: [(g7, 50, (aA z).toArray), (w.heap.size + 2, 50, Zp), (w.heap.size + 1, 45, d.cells.toArray), (w.heap.size, 50, (aA z).toArray)])).turn o9 b9 (by have := D8.out; have := LT.out; omega) (fun x hx => by
      have := D8.out
      have := NE.out
      have := LT.out
      simp only [List.mem_cons, List.not_mem_nil, or_false] at hx
      rcases hx with rfl | rfl | rfl | rfl <;> simp only <;> omega))
     refine hK.out _ _ (H9.out.os) (fun hS => ?_)
     clear hK Kq
     refine wpAnyH_done (by kernel_rfl) ?_ _
     go_wp2_with fail
     go_meet
     exact ⟨g7, g8, rfl, rfl, qh (H9.out.os)⟩
    ·go_simp
     have HN := qh (show Holds w ((x2.heap.size, 50, Zp) :: [(g8, 137, Zw), (w.heap.size + 2, 50, Zp), (w.heap.size + 1, 45, d.cells.toArray), (w.heap.size, 50, (aA z).toArray)]) (x2.alloc (.cells Zp 50)) from HH.out.box 50 Zp)
     have DN := qh (show wd.heap.size ≤ (x2.alloc (.cells Zp 50)).heap.size by have := DD.out; rw [World.size_alloc]; omega)
     have NN := qh (show g8 ≠ x2.heap.size from Nat.ne_of_lt (HH.out.b g8 (137) (Zw) (by simp)).lt)
     refine hK.out _ _ (HN.out.os) (fun hS => ?_)
     clear hK Kq HH
     have HH := HN
     clear HN
     obtain ⟨g7, hg, hd, hne⟩ : ∃ g, x2.heap.size = g ∧ wd.heap.size ≤ g ∧ g8 ≠ g := ⟨_, rfl, DD.out, NN.out⟩
     obtain ⟨x3, hV⟩ : ∃ V, x2.alloc (.cells Zp 50) = V := ⟨_, rfl⟩
     rw [hV] at HH DN hS ⊢
     clear hV DD
     have DD := DN
     clear DN
     rw [hg] at HH ⊢
     clear hg NN
     have D7 := qh hd
     have NE := qh hne
     clear hd hne
     go_simp
     refine rd 7 rfl (fun Kq hK => ?_)
     go_simp
     with_reducible refine (ST.out _ HH.out.below).mono ?_
     rintro e x4 ⟨y, hy, rfl, oy, bq⟩
     have HN := qh (HH.out.call bq)
     have DN := qh (Nat.le_trans DD.out bq.size)
     clear hy oy bq
     refine hK.out _ _ (HN.out.os) (fun hS => ?_)
     clear hK Kq HH
     have HH := HN
     clear HN
     clear DD
     have DD := DN
     clear DN
     go_simp
     refine rd 10 rfl (fun Kq hK => ?_)
     refine j5.aH rfl (.tmp 7) (.tmp 23) rfl rfl g7 z rfl rfl 50 _ (HH.out.b g7 (50) (Zp) (by simp)) (by rw [HS.out.1]) ?_
     intro w8 o8 b8
     have H8 := qh (show Holds w [(g7, 50, (aA z).toArray), (g8, 137, Zw), (w.heap.size + 2, 50, Zp), (w.heap.size + 1, 45, d.cells.toArray), (w.heap.size, 50, (aA z).toArray)] w8 from (HH.out.os (L' := (g7, 50, Zp) :: [(g8, 137, Zw), (w.heap.size + 2, 50, Zp), (w.heap.size + 1, 45, d.cells.toArray), (w.heap.size, 50, (aA z).toArray)])).turn o8 b8 (by have := D7.out; have := LT.out; omega) (fun x hx => by
      have := D7.out
      have := NE.out
      have := LT.out
      simp only [List.mem_cons, List.not_mem_nil, or_false] at hx
      rcases hx with rfl | rfl | rfl | rfl <;> simp only <;> omega))
     refine hK.out _ _ (H8.out.os) (fun hS => ?_)
     clear hK Kq
     go_simp
     refine rd 11 rfl (fun Kq hK => ?_)
     refine pJ.aH rfl (.tmp 8) (.tmp 25) rfl rfl g8 (aP y) rfl rfl 137 _ (H8.out.b g8 (137) (Zw) (by simp)) (by rw [HS.out.2]) ?_
     intro w9 o9 b9
     have H9 := qh (show Holds w [(g8, 137, (aP y).cells.toArray), (g7, 50, (aA z).toArray), (w.heap.size + 2, 50, Zp), (w.heap.size + 1, 45, d.cells.toArray), (w.heap.size, 50, (aA z).toArray)] w9 from (H8.out.os (L' := (g8, 137, Zw) :: [(g7, 50, (aA z).toArray), (w.heap.size + 2, 50, Zp), (w.heap.size + 1, 45, d.cells.toArray), (w.heap.size, 50, (aA z).toArray)])).turn o9 b9 (by have := D8.out; have := LT.out; omega) (fun x hx => by
      have := D8.out
      have := NE.out
      have := LT.out
      simp only [List.mem_cons, List.not_mem_nil, or_false] at hx
      rcases hx with rfl | rfl | rfl | rfl <;> simp only <;> omega))
     refine hK.out _ _ (H9.out.os) (fun hS => ?_)
     clear hK Kq
     refine wpAnyH_done (by kernel_rfl) ?_ _
     go_wp2_with fail
     go_meet
     exact ⟨g7, g8, rfl, rfl, qh (H9.out.os)⟩
  ·go_simp
   have HN := qh (show Holds w ((wd.heap.size, 50, Zp) :: [(w.heap.size + 2, 50, Zp), (w.heap.size + 1, 45, d.cells.toArray), (w.heap.size, 50, (aA z).toArray)]) (wd.alloc (.cells Zp 50)) from HH.out.box 50 Zp)
   have DN := qh (show wd.heap.size ≤ (wd.alloc (.cells Zp 50)).heap.size by have := DD.out; rw [World.size_alloc]; omega)
   refine hK.out _ _ (HN.out.os) (fun hS => ?_)
   clear hK Kq HH
   have HH := HN
   clear HN
   obtain ⟨g7, hg, hd, _⟩ : ∃ g, wd.heap.size = g ∧ wd.heap.size ≤ g ∧ True := ⟨_, rfl, DD.out, trivial⟩
   obtain ⟨x1, hV⟩ : ∃ V, wd.alloc (.cells Zp 50) = V := ⟨_, rfl⟩
   rw [hV] at HH DN hS ⊢
   clear hV DD
   have DD := DN
   clear DN
   rw [hg] at HH ⊢
   clear hg
   have D7 := qh hd
   clear hd
   go_simp
   refine rd2 2 9 rfl (fun Kq hK => ?_) rfl (fun Kq hK => ?_)
   ·go_simp
    with_reducible refine (nQ _).mono ?_
    rintro e x2 ⟨rfl, hV⟩
    rw [hV]
    clear hV
    refine hK.out _ _ hS (fun hS => ?_)
    clear hK Kq
    go_simp
    refine tk 5 (.agg (aA z).toArray) rfl (bH (by rfl) 50 #[(1, .tmp 20), (2, .tmp 22)] rfl (aA z).toArray (by kernel_rfl)) hS ?_
    go_simp
    refine rd2 7 9 rfl (fun Kq hK => ?_) rfl (fun Kq hK => ?_)
    ·go_simp
     with_reducible refine (ST.out _ HH.out.below).mono ?_
     rintro e x3 ⟨y, hy, rfl, oy, bq⟩
     have HN := qh (HH.out.call bq)
     have DN := qh (Nat.le_trans DD.out bq.size)
     clear hy oy bq
     refine hK.out _ _ (HN.out.os) (fun hS => ?_)
     clear hK Kq HH
     have HH := HN
     clear HN
     clear DD
     have DD := DN
     clear DN
     go_simp
     refine rd 9 rfl (fun Kq hK => ?_)
     go_simp
     have HN := qh (show Holds w ((x3.heap.size, 137, Zw) :: [(g7, 50, Zp), (w.heap.size + 2, 50, Zp), (w.heap.size + 1, 45, d.cells.toArray), (w.heap.size, 50, (aA z).toArray)]) (x3.alloc (.cells Zw 137)) from HH.out.box 137 Zw)
     have DN := qh (show wd.heap.size ≤ (x3.alloc (.cells Zw 137)).heap.size by have := DD.out; rw [World.size_alloc]; omega)
     have NN := qh (show g7 ≠ x3.heap.size from Nat.ne_of_lt (HH.out.b g7 (50) (Zp) (by simp)).lt)
     refine hK.out _ _ (HN.out.os) (fun hS => ?_)
     clear hK Kq HH
     have HH := HN
     clear HN
     obtain ⟨g8, hg, hd, hne⟩ : ∃ g, x3.heap.size = g ∧ wd.heap.size ≤ g ∧ g7 ≠ g := ⟨_, rfl, DD.out, NN.out⟩
     obtain ⟨x4, hV⟩ : ∃ V, x3.alloc (.cells Zw 137) = V := ⟨_, rfl⟩
     rw [hV] at HH DN hS ⊢
     clear hV DD
     have DD := DN
     clear DN
     rw [hg] at HH ⊢
     clear hg NN
     have D8 := qh hd
     have NE := qh hne
     clear hd hne
     go_simp
     refine rd 10 rfl (fun Kq hK => ?_)
     refine j5.aH rfl (.tmp 7) (.tmp 23) rfl rfl g7 z rfl rfl 50 _ (HH.out.b g7 (50) (Zp) (by simp)) (by rw [HS.out.1]) ?_
     intro w8 o8 b8
     have H8 := qh (show Holds w [(g7, 50, (aA z).toArray), (g8, 137, Zw), (w.heap.size + 2, 50, Zp), (w.heap.size + 1, 45, d.cells.toArray), (w.heap.size, 50, (aA z).toArray)] w8 from (HH.out.os (L' := (g7, 50, Zp) :: [(g8, 137, Zw), (w.heap.size + 2, 50, Zp), (w.heap.size + 1, 45, d.cells.toArray), (w.heap.size, 50, (aA z).toArray)])).turn o8 b8 (by have := D7.out; have := LT.out; omega) (fun x hx => by
      have := D7.out
      have := NE.out
      have := LT.out
      simp only [List.mem_cons, List.not_mem_nil, or_false] at hx
      rcases hx with rfl | rfl | rfl | rfl <;> simp only <;> omega))
     refine hK.out _ _ (H8.out.os) (fun hS => ?_)
     clear hK Kq
     go_simp
     refine rd 11 rfl (fun Kq hK => ?_)
     refine pJ.aH rfl (.tmp 8) (.tmp 25) rfl rfl g8 (aP y) rfl rfl 137 _ (H8.out.b g8 (137) (Zw) (by simp)) (by rw [HS.out.2]) ?_
     intro w9 o9 b9
     have H9 := qh (show Holds w [(g8, 137, (aP y).cells.toArray), (g7, 50, (aA z).toArray), (w.heap.size + 2, 50, Zp), (w.heap.size + 1, 45, d.cells.toArray), (w.heap.size, 50, (aA z).toArray)] w9 from (H8.out.os (L' := (g8, 137, Zw) :: [(g7, 50, (aA z).toArray), (w.heap.size + 2, 50, Zp), (w.heap.size + 1, 45, d.cells.toArray), (w.heap.size, 50, (aA z).toArray)])).turn o9 b9 (by have := D8.out; have := LT.out; omega) (fun x hx => by
      have := D8.out
      have := NE.out
      have := LT.out
      simp only [List.mem_cons, List.not_mem_nil, or_false] at hx
      rcases hx with rfl | rfl | rfl | rfl <;> simp only <;> omega))
     refine hK.out _ _ (H9.out.os) (fun hS => ?_)
     clear hK Kq
     refine wpAnyH_done (by kernel_rfl) ?_ _
     go_wp2_with fail
     go_meet
     exact ⟨g7, g8, rfl, rfl, qh (H9.out.os)⟩
    ·go_simp
     have HN := qh (show Holds w ((x1.heap.size, 137, Zw) :: [(g7, 50, Zp), (w.heap.size + 2, 50, Zp), (w.heap.size + 1, 45, d.cells.toArray), (w.heap.size, 50, (aA z).toArray)]) (x1.alloc (.cells Zw 137)) from HH.out.box 137 Zw)
     have DN := qh (show wd.heap.size ≤ (x1.alloc (.cells Zw 137)).heap.size by have := DD.out; rw [World.size_alloc]; omega)
     have NN := qh (show g7 ≠ x1.heap.size from Nat.ne_of_lt (HH.out.b g7 (50) (Zp) (by simp)).lt)
     refine hK.out _ _ (HN.out.os) (fun hS => ?_)
     clear hK Kq HH
     have HH := HN
     clear HN
     obtain ⟨g8, hg, hd, hne⟩ : ∃ g, x1.heap.size = g ∧ wd.heap.size ≤ g ∧ g7 ≠ g := ⟨_, rfl, DD.out, NN.out⟩
     obtain ⟨x3, hV⟩ : ∃ V, x1.alloc (.cells Zw 137) = V := ⟨_, rfl⟩
     rw [hV] at HH DN hS ⊢
     clear hV DD
     have DD := DN
     clear DN
     rw [hg] at HH ⊢
     clear hg NN
     have D8 := qh hd
     have NE := qh hne
     clear hd hne
     go_simp
     refine rd 7 rfl (fun Kq hK => ?_)
     go_simp
     with_reducible refine (ST.out _ HH.out.below).mono ?_
     rintro e x4 ⟨y, hy, rfl, oy, bq⟩
     have HN := qh (HH.out.call bq)
     have DN := qh (Nat.le_trans DD.out bq.size)
     clear hy oy bq
     refine hK.out _ _ (HN.out.os) (fun hS => ?_)
     clear hK Kq HH
     have HH := HN
     clear HN
     clear DD
     have DD := DN
     clear DN
     go_simp
     refine rd 10 rfl (fun Kq hK => ?_)
     refine j5.aH rfl (.tmp 7) (.tmp 23) rfl rfl g7 z rfl rfl 50 _ (HH.out.b g7 (50) (Zp) (by simp)) (by rw [HS.out.1]) ?_
     intro w8 o8 b8
     have H8 := qh (show Holds w [(g7, 50, (aA z).toArray), (g8, 137, Zw), (w.heap.size + 2, 50, Zp), (w.heap.size + 1, 45, d.cells.toArray), (w.heap.size, 50, (aA z).toArray)] w8 from (HH.out.os (L' := (g7, 50, Zp) :: [(g8, 137, Zw), (w.heap.size + 2, 50, Zp), (w.heap.size + 1, 45, d.cells.toArray), (w.heap.size, 50, (aA z).toArray)])).turn o8 b8 (by have := D7.out; have := LT.out; omega) (fun x hx => by
      have := D7.out
      have := NE.out
      have := LT.out
      simp only [List.mem_cons, List.not_mem_nil, or_false] at hx
      rcases hx with rfl | rfl | rfl | rfl <;> simp only <;> omega))
     refine hK.out _ _ (H8.out.os) (fun hS => ?_)
     clear hK Kq
     go_simp
     refine rd 11 rfl (fun Kq hK => ?_)
     refine pJ.aH rfl (.tmp 8) (.tmp 25) rfl rfl g8 (aP y) rfl rfl 137 _ (H8.out.b g8 (137) (Zw) (by simp)) (by rw [HS.out.2]) ?_
     intro w9 o9 b9
     have H9 := qh (show Holds w [(g8, 137, (aP y).cells.toArray), (g7, 50, (aA z).toArray), (w.heap.size + 2, 50, Zp), (w.heap.size + 1, 45, d.cells.toArray), (w.heap.size, 50, (aA z).toArray)] w9 from (H8.out.os (L' := (g8, 137, Zw) :: [(g7, 50, (aA z).toArray), (w.heap.size + 2, 50, Zp), (w.heap.size + 1, 45, d.cells.toArray), (w.heap.size, 50, (aA z).toArray)])).turn o9 b9 (by have := D8.out; have := LT.out; omega) (fun x hx => by
      have := D8.out
      have := NE.out
      have := LT.out
      simp only [List.mem_cons, List.not_mem_nil, or_false] at hx
      rcases hx with rfl | rfl | rfl | rfl <;> simp only <;> omega))
     refine hK.out _ _ (H9.out.os) (fun hS => ?_)
     clear hK Kq
     refine wpAnyH_done (by kernel_rfl) ?_ _
     go_wp2_with fail
     go_meet
     exact ⟨g7, g8, rfl, rfl, qh (H9.out.os)⟩
   ·go_simp
    have HN := qh (show Holds w ((x1.heap.size, 137, Zw) :: [(g7, 50, Zp), (w.heap.size + 2, 50, Zp), (w.heap.size + 1, 45, d.cells.toArray), (w.heap.size, 50, (aA z).toArray)]) (x1.alloc (.cells Zw 137)) from HH.out.box 137 Zw)
    have DN := qh (show wd.heap.size ≤ (x1.alloc (.cells Zw 137)).heap.size by have := DD.out; rw [World.size_alloc]; omega)
    have NN := qh (show g7 ≠ x1.heap.size from Nat.ne_of_lt (HH.out.b g7 (50) (Zp) (by simp)).lt)
    refine hK.out _ _ (HN.out.os) (fun hS => ?_)
    clear hK Kq HH
    have HH := HN
    clear HN
    obtain ⟨g8, hg, hd, hne⟩ : ∃ g, x1.heap.size = g ∧ wd.heap.size ≤ g ∧ g7 ≠ g := ⟨_, rfl, DD.out, NN.out⟩
    obtain ⟨x2, hV⟩ : ∃ V, x1.alloc (.cells Zw 137) = V := ⟨_, rfl⟩
    rw [hV] at HH DN hS ⊢
    clear hV DD
    have DD := DN
    clear DN
    rw [hg] at HH ⊢
    clear hg NN
    have D8 := qh hd
    have NE := qh hne
    clear hd hne
    go_simp
    refine rd 2 rfl (fun Kq hK => ?_)
    go_simp
    with_reducible refine (nQ _).mono ?_
    rintro e x3 ⟨rfl, hV⟩
    rw [hV]
    clear hV
    refine hK.out _ _ hS (fun hS => ?_)
    clear hK Kq
    go_simp
    refine tk 5 (.agg (aA z).toArray) rfl (bH (by rfl) 50 #[(1, .tmp 20), (2, .tmp 22)] rfl (aA z).toArray (by kernel_rfl)) hS ?_
    go_simp
    refine rd 7 rfl (fun Kq hK => ?_)
    go_simp
    with_reducible refine (ST.out _ HH.out.below).mono ?_
    rintro e x4 ⟨y, hy, rfl, oy, bq⟩
    have HN := qh (HH.out.call bq)
    have DN := qh (Nat.le_trans DD.out bq.size)
    clear hy oy bq
    refine hK.out _ _ (HN.out.os) (fun hS => ?_)
    clear hK Kq HH
    have HH := HN
    clear HN
    clear DD
    have DD := DN
    clear DN
    go_simp
    refine rd 10 rfl (fun Kq hK => ?_)
    refine j5.aH rfl (.tmp 7) (.tmp 23) rfl rfl g7 z rfl rfl 50 _ (HH.out.b g7 (50) (Zp) (by simp)) (by rw [HS.out.1]) ?_
    intro w8 o8 b8
    have H8 := qh (show Holds w [(g7, 50, (aA z).toArray), (g8, 137, Zw), (w.heap.size + 2, 50, Zp), (w.heap.size + 1, 45, d.cells.toArray), (w.heap.size, 50, (aA z).toArray)] w8 from (HH.out.os (L' := (g7, 50, Zp) :: [(g8, 137, Zw), (w.heap.size + 2, 50, Zp), (w.heap.size + 1, 45, d.cells.toArray), (w.heap.size, 50, (aA z).toArray)])).turn o8 b8 (by have := D7.out; have := LT.out; omega) (fun x hx => by
     have := D7.out
     have := NE.out
     have := LT.out
     simp only [List.mem_cons, List.not_mem_nil, or_false] at hx
     rcases hx with rfl | rfl | rfl | rfl <;> simp only <;> omega))
    refine hK.out _ _ (H8.out.os) (fun hS => ?_)
    clear hK Kq
    go_simp
    refine rd 11 rfl (fun Kq hK => ?_)
    refine pJ.aH rfl (.tmp 8) (.tmp 25) rfl rfl g8 (aP y) rfl rfl 137 _ (H8.out.b g8 (137) (Zw) (by simp)) (by rw [HS.out.2]) ?_
    intro w9 o9 b9
    have H9 := qh (show Holds w [(g8, 137, (aP y).cells.toArray), (g7, 50, (aA z).toArray), (w.heap.size + 2, 50, Zp), (w.heap.size + 1, 45, d.cells.toArray), (w.heap.size, 50, (aA z).toArray)] w9 from (H8.out.os (L' := (g8, 137, Zw) :: [(g7, 50, (aA z).toArray), (w.heap.size + 2, 50, Zp), (w.heap.size + 1, 45, d.cells.toArray), (w.heap.size, 50, (aA z).toArray)])).turn o9 b9 (by have := D8.out; have := LT.out; omega) (fun x hx => by
     have := D8.out
     have := NE.out
     have := LT.out
     simp only [List.mem_cons, List.not_mem_nil, or_false] at hx
     rcases hx with rfl | rfl | rfl | rfl <;> simp only <;> omega))
    refine hK.out _ _ (H9.out.os) (fun hS => ?_)
    clear hK Kq
    refine wpAnyH_done (by kernel_rfl) ?_ _
    go_wp2_with fail
    go_meet
    exact ⟨g7, g8, rfl, rfl, qh (H9.out.os)⟩
  ·go_simp
   have HN := qh (show Holds w ((wd.heap.size, 137, Zw) :: [(w.heap.size + 2, 50, Zp), (w.heap.size + 1, 45, d.cells.toArray), (w.heap.size, 50, (aA z).toArray)]) (wd.alloc (.cells Zw 137)) from HH.out.box 137 Zw)
   have DN := qh (show wd.heap.size ≤ (wd.alloc (.cells Zw 137)).heap.size by have := DD.out; rw [World.size_alloc]; omega)
   refine hK.out _ _ (HN.out.os) (fun hS => ?_)
   clear hK Kq HH
   have HH := HN
   clear HN
   obtain ⟨g8, hg, hd, _⟩ : ∃ g, wd.heap.size = g ∧ wd.heap.size ≤ g ∧ True := ⟨_, rfl, DD.out, trivial⟩
   obtain ⟨x1, hV⟩ : ∃ V, wd.alloc (.cells Zw 137) = V := ⟨_, rfl⟩
   rw [hV] at HH DN hS ⊢
   clear hV DD
   have DD := DN
   clear DN
   rw [hg] at HH ⊢
   clear hg
   have D8 := qh hd
   clear hd
   go_simp
   refine rd2 2 8 rfl (fun Kq hK => ?_) rfl (fun Kq hK => ?_)
   ·go_simp
    with_reducible refine (nQ _).mono ?_
    rintro e x2 ⟨rfl, hV⟩
    rw [hV]
    clear hV
    refine hK.out _ _ hS (fun hS => ?_)
    clear hK Kq
    go_simp
    refine tk 5 (.agg (aA z).toArray) rfl (bH (by rfl) 50 #[(1, .tmp 20), (2, .tmp 22)] rfl (aA z).toArray (by kernel_rfl)) hS ?_
    go_simp
    refine rd2 7 8 rfl (fun Kq hK => ?_) rfl (fun Kq hK => ?_)
    ·go_simp
     with_reducible refine (ST.out _ HH.out.below).mono ?_
     rintro e x3 ⟨y, hy, rfl, oy, bq⟩
     have HN := qh (HH.out.call bq)
     have DN := qh (Nat.le_trans DD.out bq.size)
     clear hy oy bq
     refine hK.out _ _ (HN.out.os) (fun hS => ?_)
     clear hK Kq HH
     have HH := HN
     clear HN
     clear DD
     have DD := DN
     clear DN
     go_simp
     refine rd 8 rfl (fun Kq hK => ?_)
     go_simp
     have HN := qh (show Holds w ((x3.heap.size, 50, Zp) :: [(g8, 137, Zw), (w.heap.size + 2, 50, Zp), (w.heap.size + 1, 45, d.cells.toArray), (w.heap.size, 50, (aA z).toArray)]) (x3.alloc (.cells Zp 50)) from HH.out.box 50 Zp)
     have DN := qh (show wd.heap.size ≤ (x3.alloc (.cells Zp 50)).heap.size by have := DD.out; rw [World.size_alloc]; omega)
     have NN := qh (show g8 ≠ x3.heap.size from Nat.ne_of_lt (HH.out.b g8 (137) (Zw) (by simp)).lt)
     refine hK.out _ _ (HN.out.os) (fun hS => ?_)
     clear hK Kq HH
     have HH := HN
     clear HN
     obtain ⟨g7, hg, hd, hne⟩ : ∃ g, x3.heap.size = g ∧ wd.heap.size ≤ g ∧ g8 ≠ g := ⟨_, rfl, DD.out, NN.out⟩
     obtain ⟨x4, hV⟩ : ∃ V, x3.alloc (.cells Zp 50) = V := ⟨_, rfl⟩
     rw [hV] at HH DN hS ⊢
     clear hV DD
     have DD := DN
     clear DN
     rw [hg] at HH ⊢
     clear hg NN
     have D7 := qh hd
     have NE := qh hne
     clear hd hne
     go_simp
     refine rd 10 rfl (fun Kq hK => ?_)
     refine j5.aH rfl (.tmp 7) (.tmp 23) rfl rfl g7 z rfl rfl 50 _ (HH.out.b g7 (50) (Zp) (by simp)) (by rw [HS.out.1]) ?_
     intro w8 o8 b8
     have H8 := qh (show Holds w [(g7, 50, (aA z).toArray), (g8, 137, Zw), (w.heap.size + 2, 50, Zp), (w.heap.size + 1, 45, d.cells.toArray), (w.heap.size, 50, (aA z).toArray)] w8 from (HH.out.os (L' := (g7, 50, Zp) :: [(g8, 137, Zw), (w.heap.size + 2, 50, Zp), (w.heap.size + 1, 45, d.cells.toArray), (w.heap.size, 50, (aA z).toArray)])).turn o8 b8 (by have := D7.out; have := LT.out; omega) (fun x hx => by
      have := D7.out
      have := NE.out
      have := LT.out
      simp only [List.mem_cons, List.not_mem_nil, or_false] at hx
      rcases hx with rfl | rfl | rfl | rfl <;> simp only <;> omega))
     refine hK.out _ _ (H8.out.os) (fun hS => ?_)
     clear hK Kq
     go_simp
     refine rd 11 rfl (fun Kq hK => ?_)
     refine pJ.aH rfl (.tmp 8) (.tmp 25) rfl rfl g8 (aP y) rfl rfl 137 _ (H8.out.b g8 (137) (Zw) (by simp)) (by rw [HS.out.2]) ?_
     intro w9 o9 b9
     have H9 := qh (show Holds w [(g8, 137, (aP y).cells.toArray), (g7, 50, (aA z).toArray), (w.heap.size + 2, 50, Zp), (w.heap.size + 1, 45, d.cells.toArray), (w.heap.size, 50, (aA z).toArray)] w9 from (H8.out.os (L' := (g8, 137, Zw) :: [(g7, 50, (aA z).toArray), (w.heap.size + 2, 50, Zp), (w.heap.size + 1, 45, d.cells.toArray), (w.heap.size, 50, (aA z).toArray)])).turn o9 b9 (by have := D8.out; have := LT.out; omega) (fun x hx => by
      have := D8.out
      have := NE.out
      have := LT.out
      simp only [List.mem_cons, List.not_mem_nil, or_false] at hx
      rcases hx with rfl | rfl | rfl | rfl <;> simp only <;> omega))
     refine hK.out _ _ (H9.out.os) (fun hS => ?_)
     clear hK Kq
     refine wpAnyH_done (by kernel_rfl) ?_ _
     go_wp2_with fail
     go_meet
     exact ⟨g7, g8, rfl, rfl, qh (H9.out.os)⟩
    ·go_simp
     have HN := qh (show Holds w ((x1.heap.size, 50, Zp) :: [(g8, 137, Zw), (w.heap.size + 2, 50, Zp), (w.heap.size + 1, 45, d.cells.toArray), (w.heap.size, 50, (aA z).toArray)]) (x1.alloc (.cells Zp 50)) from HH.out.box 50 Zp)
     have DN := qh (show wd.heap.size ≤ (x1.alloc (.cells Zp 50)).heap.size by have := DD.out; rw [World.size_alloc]; omega)
     have NN := qh (show g8 ≠ x1.heap.size from Nat.ne_of_lt (HH.out.b g8 (137) (Zw) (by simp)).lt)
     refine hK.out _ _ (HN.out.os) (fun hS => ?_)
     clear hK Kq HH
     have HH := HN
     clear HN
     obtain ⟨g7, hg, hd, hne⟩ : ∃ g, x1.heap.size = g ∧ wd.heap.size ≤ g ∧ g8 ≠ g := ⟨_, rfl, DD.out, NN.out⟩
     obtain ⟨x3, hV⟩ : ∃ V, x1.alloc (.cells Zp 50) = V := ⟨_, rfl⟩
     rw [hV] at HH DN hS ⊢
     clear hV DD
     have DD := DN
     clear DN
     rw [hg] at HH ⊢
     clear hg NN
     have D7 := qh hd
     have NE := qh hne
     clear hd hne
     go_simp
     refine rd 7 rfl (fun Kq hK => ?_)
     go_simp
     with_reducible refine (ST.out _ HH.out.below).mono ?_
     rintro e x4 ⟨y, hy, rfl, oy, bq⟩
     have HN := qh (HH.out.call bq)
     have DN := qh (Nat.le_trans DD.out bq.size)
     clear hy oy bq
     refine hK.out _ _ (HN.out.os) (fun hS => ?_)
     clear hK Kq HH
     have HH := HN
     clear HN
     clear DD
     have DD := DN
     clear DN
     go_simp
     refine rd 10 rfl (fun Kq hK => ?_)
     refine j5.aH rfl (.tmp 7) (.tmp 23) rfl rfl g7 z rfl rfl 50 _ (HH.out.b g7 (50) (Zp) (by simp)) (by rw [HS.out.1]) ?_
     intro w8 o8 b8
     have H8 := qh (show Holds w [(g7, 50, (aA z).toArray), (g8, 137, Zw), (w.heap.size + 2, 50, Zp), (w.heap.size + 1, 45, d.cells.toArray), (w.heap.size, 50, (aA z).toArray)] w8 from (HH.out.os (L' := (g7, 50, Zp) :: [(g8, 137, Zw), (w.heap.size + 2, 50, Zp), (w.heap.size + 1, 45, d.cells.toArray), (w.heap.size, 50, (aA z).toArray)])).turn o8 b8 (by have := D7.out; have := LT.out; omega) (fun x hx => by
      have := D7.out
      have := NE.out
      have := LT.out
      simp only [List.mem_cons, List.not_mem_nil, or_false] at hx
      rcases hx with rfl | rfl | rfl | rfl <;> simp only <;> omega))
     refine hK.out _ _ (H8.out.os) (fun hS => ?_)
     clear hK Kq
     go_simp
     refine rd 11 rfl (fun Kq hK => ?_)
     refine pJ.aH rfl (.tmp 8) (.tmp 25) rfl rfl g8 (aP y) rfl rfl 137 _ (H8.out.b g8 (137) (Zw) (by simp)) (by rw [HS.out.2]) ?_
     intro w9 o9 b9
     have H9 := qh (show Holds w [(g8, 137, (aP y).cells.toArray), (g7, 50, (aA z).toArray), (w.heap.size + 2, 50, Zp), (w.heap.size + 1, 45, d.cells.toArray), (w.heap.size, 50, (aA z).toArray)] w9 from (H8.out.os (L' := (g8, 137, Zw) :: [(g7, 50, (aA z).toArray), (w.heap.size + 2, 50, Zp), (w.heap.size + 1, 45, d.cells.toArray), (w.heap.size, 50, (aA z).toArray)])).turn o9 b9 (by have := D8.out; have := LT.out; omega) (fun x hx => by
      have := D8.out
      have := NE.out
      have := LT.out
      simp only [List.mem_cons, List.not_mem_nil, or_false] at hx
      rcases hx with rfl | rfl | rfl | rfl <;> simp only <;> omega))
     refine hK.out _ _ (H9.out.os) (fun hS => ?_)
     clear hK Kq
     refine wpAnyH_done (by kernel_rfl) ?_ _
     go_wp2_with fail
     go_meet
     exact ⟨g7, g8, rfl, rfl, qh (H9.out.os)⟩
   ·go_simp
    have HN := qh (show Holds w ((x1.heap.size, 50, Zp) :: [(g8, 137, Zw), (w.heap.size + 2, 50, Zp), (w.heap.size + 1, 45, d.cells.toArray), (w.heap.size, 50, (aA z).toArray)]) (x1.alloc (.cells Zp 50)) from HH.out.box 50 Zp)
    have DN := qh (show wd.heap.size ≤ (x1.alloc (.cells Zp 50)).heap.size by have := DD.out; rw [World.size_alloc]; omega)
    have NN := qh (show g8 ≠ x1.heap.size from Nat.ne_of_lt (HH.out.b g8 (137) (Zw) (by simp)).lt)
    refine hK.out _ _ (HN.out.os) (fun hS => ?_)
    clear hK Kq HH
    have HH := HN
    clear HN
    obtain ⟨g7, hg, hd, hne⟩ : ∃ g, x1.heap.size = g ∧ wd.heap.size ≤ g ∧ g8 ≠ g := ⟨_, rfl, DD.out, NN.out⟩
    obtain ⟨x2, hV⟩ : ∃ V, x1.alloc (.cells Zp 50) = V := ⟨_, rfl⟩
    rw [hV] at HH DN hS ⊢
    clear hV DD
    have DD := DN
    clear DN
    rw [hg] at HH ⊢
    clear hg NN
    have D7 := qh hd
    have NE := qh hne
    clear hd hne
    go_simp
    refine rd 2 rfl (fun Kq hK => ?_)
    go_simp
    with_reducible refine (nQ _).mono ?_
    rintro e x3 ⟨rfl, hV⟩
    rw [hV]
    clear hV
    refine hK.out _ _ hS (fun hS => ?_)
    clear hK Kq
    go_simp
    refine tk 5 (.agg (aA z).toArray) rfl (bH (by rfl) 50 #[(1, .tmp 20), (2, .tmp 22)] rfl (aA z).toArray (by kernel_rfl)) hS ?_
    go_simp
    refine rd 7 rfl (fun Kq hK => ?_)
    go_simp
    with_reducible refine (ST.out _ HH.out.below).mono ?_
    rintro e x4 ⟨y, hy, rfl, oy, bq⟩
    have HN := qh (HH.out.call bq)
    have DN := qh (Nat.le_trans DD.out bq.size)
    clear hy oy bq
    refine hK.out _ _ (HN.out.os) (fun hS => ?_)
    clear hK Kq HH
    have HH := HN
    clear HN
    clear DD
    have DD := DN
    clear DN
    go_simp
    refine rd 10 rfl (fun Kq hK => ?_)
    refine j5.aH rfl (.tmp 7) (.tmp 23) rfl rfl g7 z rfl rfl 50 _ (HH.out.b g7 (50) (Zp) (by simp)) (by rw [HS.out.1]) ?_
    intro w8 o8 b8
    have H8 := qh (show Holds w [(g7, 50, (aA z).toArray), (g8, 137, Zw), (w.heap.size + 2, 50, Zp), (w.heap.size + 1, 45, d.cells.toArray), (w.heap.size, 50, (aA z).toArray)] w8 from (HH.out.os (L' := (g7, 50, Zp) :: [(g8, 137, Zw), (w.heap.size + 2, 50, Zp), (w.heap.size + 1, 45, d.cells.toArray), (w.heap.size, 50, (aA z).toArray)])).turn o8 b8 (by have := D7.out; have := LT.out; omega) (fun x hx => by
     have := D7.out
     have := NE.out
     have := LT.out
     simp only [List.mem_cons, List.not_mem_nil, or_false] at hx
     rcases hx with rfl | rfl | rfl | rfl <;> simp only <;> omega))
    refine hK.out _ _ (H8.out.os) (fun hS => ?_)
    clear hK Kq
    go_simp
    refine rd 11 rfl (fun Kq hK => ?_)
    refine pJ.aH rfl (.tmp 8) (.tmp 25) rfl rfl g8 (aP y) rfl rfl 137 _ (H8.out.b g8 (137) (Zw) (by simp)) (by rw [HS.out.2]) ?_
    intro w9 o9 b9
    have H9 := qh (show Holds w [(g8, 137, (aP y).cells.toArray), (g7, 50, (aA z).toArray), (w.heap.size + 2, 50, Zp), (w.heap.size + 1, 45, d.cells.toArray), (w.heap.size, 50, (aA z).toArray)] w9 from (H8.out.os (L' := (g8, 137, Zw) :: [(g7, 50, (aA z).toArray), (w.heap.size + 2, 50, Zp), (w.heap.size + 1, 45, d.cells.toArray), (w.heap.size, 50, (aA z).toArray)])).turn o9 b9 (by have := D8.out; have := LT.out; omega) (fun x hx => by
     have := D8.out
     have := NE.out
     have := LT.out
     simp only [List.mem_cons, List.not_mem_nil, or_false] at hx
     rcases hx with rfl | rfl | rfl | rfl <;> simp only <;> omega))
    refine hK.out _ _ (H9.out.os) (fun hS => ?_)
    clear hK Kq
    refine wpAnyH_done (by kernel_rfl) ?_ _
    go_wp2_with fail
    go_meet
    exact ⟨g7, g8, rfl, rfl, qh (H9.out.os)⟩
 case rest =>
  obtain ⟨g7, g8, rfl, rfl, H1⟩ := hcut
  clear H0 ST
  go_wp2_with fail
  refine wp_region_held_drew (S := Holds w [(g7, 50, (aA z).toArray), (w.heap.size + 2, 50, Zp), (w.heap.size + 1, 45, d.cells.toArray), (w.heap.size, 50, (aA z).toArray)]) (by kernel_rfl) (H1.out.call (Below.refl _ _).drew) ?_
  intro hS
  have HH := qh hS
  clear H1
  generalize World.drew _ = wd at hS HH ⊢
  have LG := qh (show w.heap.size ≤ wd.heap.size from HH.out.below.size)
  have NG := qh (show ∀ x ∈ [(g7, 50, (aA z).toArray), (w.heap.size + 2, 50, Zp), (w.heap.size + 1, 45, d.cells.toArray), (w.heap.size, 50, (aA z).toArray)], x.1 < wd.heap.size from fun x hx => (HH.out.nS x hx).lt)
  refine tkp 0 (.slice none 0 0) rfl hS ?_
  go_simp
  refine tk 2 (.agg (aA z).toArray) rfl (j5.aB (by rfl) (.tmp 3) rfl w.heap.size 0 rfl z (fun _ h => au.ah (h.b (w.heap.size) (50) ((aA z).toArray) (by simp)))) hS ?_
  go_simp
  refine tkp 6 (.int .i64 0) rfl hS ?_
  go_simp
  refine rd 1 rfl (fun Kq hK => ?_)
  go_simp
  with_reducible refine (VE _ _).mono ?_
  rintro e x1 ⟨rfl, k1, b1⟩
  have HN := qh ((HH.out.call b1).more k1)
  refine hK.out _ _ (HN.out.of (fun x hx => List.mem_cons_of_mem _ hx)) (fun hS => ?_)
  clear hK Kq HH k1 b1
  have HH := HN
  clear HN
  obtain ⟨g4, hg4⟩ : ∃ g, wd.heap.size = g := ⟨_, rfl⟩
  rw [hg4] at HH LG NG ⊢
  clear hg4
  go_simp
  refine rd 3 rfl (fun Kq hK => ?_)
  go_simp
  with_reducible refine (TX.out _).mono ?_
  rintro e x3 ⟨g5, hg5, rfl, k3, b3⟩
  have HN := qh (HH.out.call b3)
  refine hK.out _ _ (HN.out.of (fun x hx => List.mem_cons_of_mem _ hx)) (fun hS => ?_)
  clear hK Kq HH k3 b3 hg5
  have HH := HN
  clear HN
  go_simp
  refine rd 4 rfl (fun Kq hK => ?_)
  refine mD.step_append rfl QY 144 QZ (by omega) (.tmp 27) (.tmp 29) rfl w.heap.size _ ([] : List aY) rfl (Ny (HH.out.b g4 (92) #[] (by simp)) LG.out) 0 (some ⟨g5, 0, none⟩) 0 ([] : List aY) rfl (aK.nil (Nat.zero_le _)) (by simp) HH.out.below.size ?_
  intro v6 x6 p6 q6
  have HN := qh (show Holds w [(g7, 50, (aA z).toArray), (w.heap.size + 2, 50, Zp), (w.heap.size + 1, 45, d.cells.toArray), (w.heap.size, 50, (aA z).toArray)] x6 from (HH.out.os (L' := [(g7, 50, (aA z).toArray), (w.heap.size + 2, 50, Zp), (w.heap.size + 1, 45, d.cells.toArray), (w.heap.size, 50, (aA z).toArray)])).vP q6 (fun k e => by have e2 : g4 = k := Option.some.inj e; have := LG.out; omega) (fun x hx e => by
   have h1 : x.1 = g4 := Option.some.inj e
   have := NG.out x hx
   omega))
  obtain ⟨A6, c6, rfl, _⟩ := aK.fO aY.len p6
  refine hK.out _ _ HN.out (fun hS => ?_)
  clear hK Kq HH p6 q6
  have HH := HN
  clear HN
  go_simp
  refine tkp 5 (.int .i64 0) rfl hS ?_
  go_simp
  refine wpAnyH_done (by kernel_rfl) ?_ _
  go_wp2_with fail
  refine wp_loop_rounds 1 ?_
  rw [rounds_succ]
  go_wp2_with (first
   | ((with_reducible refine az 7 ?_); refine j5.af rfl (.tmp 7) rfl g7 0 rfl z (au.ah (HH.out.b (g7) (50) ((aA z).toArray) (by simp))) ?_)
   | ((with_reducible refine ag 6 71 ?_); refine j5.aj rfl (.tmp 6) (.tmp 71) rfl rfl (w.heap.size + 2) z rfl rfl 50 _ (HH.out.b (w.heap.size + 2) (50) (Zp) (by simp)) (by rw [HS.out.1]) ?_; intro w9 o9 b9))
  exact bodyPost_ret (aU rfl _ _ (w.heap.size + 2) 50 _ (0, 0) _ rfl b9 Tryz.underlying50 rfl (by rw [j5.arr]; kernel_rfl)) rfl ⟨rfl, HH.out.below.trans (o9.below (by simp))⟩
end
section
open Go.RowKit Go.Lib
theorem XK (A : Option Addr) (c : Nat) (f : Value) (w : World) : Calls Tryz.prog 345 #[.slice A 0 c, .int .i64 0, .int .i64 0, f] w fun e w' => e = .returned (.tuple #[]) ∧ Below w.heap.size w w' := by
 go_enter Tryz.func345, Tryz.ntmps345
 go_wp2_with fail
 refine wp_loop_rounds 1 ?_
 rw [rounds_succ]
 go_wp2_with fail
 exact ⟨rfl, .tuple #[], by kernel_rfl, rfl, Below.refl _ _⟩
theorem Xu (A : Option Addr) (c : Nat) (f : Value) (l : Int) (w : World) : Calls Tryz.prog 343 #[.slice A 0 c, .int .i64 0, .int .i64 0, .int .i64 l, f] w fun e w' => e = .returned (.tuple #[]) ∧ Below w.heap.size w w' := by
 go_enter Tryz.func343, Tryz.ntmps343
 go_wp2_with fail
 refine wp_loop_rounds 1 ?_
 rw [rounds_succ]
 go_wp2_with fail
 refine (XK A c f _).mono ?_
 rintro e w1 ⟨rfl, b1⟩
 go_wp2_with fail
 exact ⟨rfl, .tuple #[], by kernel_rfl, rfl, b1⟩
theorem U9 (A : Option Addr) (c : Nat) (f : Value) (w : World) : Calls Tryz.prog 339 #[.slice A 0 c, f] w fun e w' => e = .returned (.tuple #[]) ∧ Below w.heap.size w w' := by
 have hb := FB w
 go_enter Tryz.func339, Tryz.ntmps339
 go_wp2_with fail
 refine hb.mono ?_
 rintro e w1 ⟨rfl, rfl⟩
 go_wp2_with fail
 refine (Xu A c f _ _).mono ?_
 rintro e w1 ⟨rfl, b1⟩
 go_wp2_with fail
 exact ⟨rfl, .tuple #[], by kernel_rfl, rfl, b1⟩
theorem VN (A : Option Addr) (c : Nat) (w : World) : Calls Tryz.prog 328 #[.slice A 0 c] w fun e w' => e = .returned (.slice A 0 c) ∧ Below w.heap.size w w' := by
 go_enter Tryz.func328, Tryz.ntmps328
 go_wp2_with fail
 go_ret
 exact ⟨rfl, Below.refl _ _⟩
theorem MG (A : Option Addr) (c : Nat) (w : World) (h : aK ak 32 w w.heap.size A c []) : Calls Tryz.prog 329 #[.slice A 0 c] w fun e w' => ∃ A' c', e = .returned (.slice A' 0 c') ∧ Below w.heap.size w w' := by
 have HC := qh (nP A c [] w.heap.size w (by simp) (Nat.le_refl _) h)
 clear h
 go_enter Tryz.func329, Tryz.ntmps329
 go_wp2_with fail
 refine HC.out.mono ?_
 rintro e w1 ⟨v, rfl, hown, b1⟩
 obtain ⟨A1, c1, rfl⟩ : ∃ A1 c1, v = .slice A1 0 c1 := by
  rcases hown.2 with ⟨rfl, h0⟩ | ⟨g, cap, cur, rfl, hb, hh, hn', hm, hs, ht⟩
  ·exact ⟨_, _, rfl⟩
  ·exact ⟨_, _, rfl⟩
 clear hown HC
 have B1 := qh b1
 clear b1
 go_wp2_with fail
 refine (U9 A1 c1 _ _).mono ?_
 rintro e w2 ⟨rfl, b2⟩
 have B2 := qh (B1.out.trans (b2.mono B1.out.size))
 clear b2 B1
 go_wp2_with fail
 go_ret
 exact ⟨A1, c1, rfl, B2.out⟩
theorem PY (A : Option Addr) (c : Nat) (w : World) (h : aK ak 32 w w.heap.size A c []) : Calls Tryz.prog 308 #[.slice A 0 c] w fun e w' => e = .returned (.bool true) ∧ Below w.heap.size w w' := by
 have HC := qh (MG A c w h)
 clear h
 go_enter Tryz.func308, Tryz.ntmps308
 go_wp2_with fail
 refine HC.out.mono ?_
 rintro e w1 ⟨A1, c1, rfl, b1⟩
 have B1 := qh b1
 clear b1 HC
 go_wp2_with fail
 refine (VN A1 c1 _).mono ?_
 rintro e w2 ⟨rfl, b2⟩
 have B2 := qh (B1.out.trans (b2.mono B1.out.size))
 clear b2 B1
 go_wp2_with fail
 go_ret
 exact ⟨rfl, B2.out⟩
end
section
open Go.RowKit
theorem TB (a : aY) (g : Nat) (w : World) (hg : w.cell? ⟨g, 0, none⟩ = some (.bool true)) (ha : a.In w w.heap.size) :
 Calls Tryz.prog 255 #[.agg a.cells.toArray, .pointer (some ⟨g, 0, none⟩)] w fun e w' => e = .returned (.bool (iL a.T true)) ∧ Below w.heap.size w w' := by
 have HH := qh (show Holds w [(w.heap.size, 92, a.cells.toArray)] (w.alloc (.cells a.cells.toArray 92)) from (Holds.nil w).box 92 a.cells.toArray)
 have IN := qh ha
 have HC := qh (fun W (h : Holds w [(w.heap.size, 92, a.cells.toArray)] W) => Hw a W (IN.out.on h.below (Nat.le_refl _)))
 obtain ⟨r, hr⟩ : ∃ r, iL a.T true = r := ⟨_, rfl⟩
 rw [hr] at HC ⊢
 have kg : (w.alloc (.cells a.cells.toArray 92)).cell? ⟨g, 0, none⟩ = some (.bool true) := (HH.out.below.cell (World.block_lt_of_cell? w ⟨g, 0, none⟩ hg)).trans hg
 clear ha hr hg
 go_enter Tryz.func255, Tryz.ntmps255
 go_wp2_with ((with_reducible refine az 2 ?_); refine di.af rfl (.tmp 2) rfl w.heap.size 0 rfl a (au.ah (HH.out.at (x := (w.heap.size, 92, a.cells.toArray)) (by simp))) ?_)
 with_reducible refine (HC.out _ HH.out).mono ?_
 rintro e w1 ⟨rfl, bq⟩
 have HQ := qh (HH.out.call bq)
 clear bq HH
 have HH := HQ
 clear HQ
 go_wp2_with fail
 go_ret
 exact ⟨rfl, HH.out.below⟩
theorem VQ (a : aY) (w : World) (ha : a.In w w.heap.size) (hn : iy a.T) (hz : a.T.av = []) :
 Calls Tryz.prog 258 #[.agg a.cells.toArray] w fun e w' => e = .returned (.bool (pR a.T)) ∧ Below w.heap.size w w' := by
 have HH := qh (show Holds w [(w.heap.size, 92, a.cells.toArray)] (w.alloc (.cells a.cells.toArray 92)) from (Holds.nil w).box 92 a.cells.toArray)
 have IN := qh ha
 have HN := qh hn
 obtain ⟨p, hp⟩ : ∃ p, decide a.T.ins.Nodup = p := ⟨_, rfl⟩
 have HT := qh (show pR a.T = (!p || !true) by unfold pR; rw [hp, hz]; rfl)
 rw [HT.out]
 have WO := qh (fun W (h : Holds w [(w.heap.size, 92, a.cells.toArray)] W) => Hu a.Ai a.ci a.T.ins W (IN.out.on h.below (Nat.le_refl _)).ins (by have := HN.out.i; omega))
 have HDI := qh (fun W (h : Holds w [(w.heap.size, 92, a.cells.toArray)] W) => PY a.An a.cn W (hz ▸ (IN.out.on h.below (Nat.le_refl _)).av))
 rw [hp] at WO
 have k1 : (w.alloc (.cells a.cells.toArray 92)).cell? ⟨w.heap.size, 1, none⟩ = some (.slice a.Ai a.T.ins.length a.ci) := aY.c1 (au.ah (HH.out.at (x := (w.heap.size, 92, a.cells.toArray)) (by simp)))
 have hzl : a.T.av.length = 0 := by rw [hz]; rfl
 clear ha hn hp hz HT
 go_enter Tryz.func258, Tryz.ntmps258
 go_wp2_with fail
 with_reducible refine (WO.out _ HH.out).mono ?_
 rintro e w1 ⟨rfl, bq⟩
 have HQ := qh (HH.out.call bq)
 clear bq HH
 have HH := HQ
 clear HQ
 clear WO k1
 have k4 : w1.cell? ⟨w.heap.size, 35, none⟩ = some (.slice a.An 0 a.cn) := hzl ▸ aY.c4 (au.ah (HH.out.at (x := (w.heap.size, 92, a.cells.toArray)) (by simp)))
 cases p with
 | false =>
  go_wp2_with fail
  go_ret
  exact ⟨rfl, HH.out.below⟩
 | true =>
  go_wp2_with fail
  with_reducible refine (HDI.out _ HH.out).mono ?_
  rintro e w2 ⟨rfl, bq⟩
  have HQ := qh (HH.out.call bq)
  clear bq HH
  have HH := HQ
  clear HQ
  clear HDI
  go_wp2_with fail
  go_ret
  exact ⟨rfl, HH.out.below⟩
theorem Cr (a : aY) (g : Nat) (w : World) (ha : a.In w w.heap.size) (hn : iy a.T) (hz : a.T.av = []) (hg : w.cell? ⟨g, 0, none⟩ = some (.bool true)) : ∀ x ∈ jR a.T true g,
 Calls Tryz.prog x.f (Value.agg a.cells.toArray :: x.cb).toArray w fun e w' => e = .returned (.bool x.v) ∧ Below w.heap.size w w' := by
 intro x hx
 simp only [jR, List.mem_cons, List.not_mem_nil, or_false] at hx
 rcases hx with rfl | rfl | rfl | rfl
 ·exact Fp a w hn
 ·exact TB a g w hg ha
 ·exact VQ a w ha hn hz
 ·exact Lj a w ha hn
theorem Si (a : aY) (w : World) (ha : a.In w w.heap.size) (hn : iy a.T) (hz : a.T.av = []) : Calls Tryz.prog 139 #[.agg a.cells.toArray, .bool true] w fun e w' => e = .returned (.int .i64 (fB a.T true)) ∧ Below w.heap.size w w' := by
 have HH := qh (show Holds w [(w.heap.size, 92, a.cells.toArray)] (w.alloc (.cells a.cells.toArray 92)) from (Holds.nil w).box 92 a.cells.toArray)
 have IN := qh ha
 have HN := qh hn
 have HZ0 := qh hz
 have ZO := qh (fun W (h : Holds w [(w.heap.size, 92, a.cells.toArray)] W) => uN a W (IN.out.on h.below (Nat.le_refl _)))
 obtain ⟨er, her⟩ : ∃ er, (fA a.T).2 = er := ⟨_, rfl⟩
 obtain ⟨sb, hsb⟩ : ∃ sb : ByteArray, (⟨(fA a.T).1.toArray⟩ : ByteArray) = sb := ⟨_, rfl⟩
 unfold q9 at ZO
 rw [her, hsb] at ZO
 obtain ⟨ck, hck⟩ : ∃ ck, fB a.T true = ck := ⟨_, rfl⟩
 rw [hck]
 have HE := qh her
 have HC := qh hck
 clear ha hn hz her hsb hck
 go_enter Tryz.func139, Tryz.ntmps139
 go_wp2_with ((with_reducible refine az 2 ?_); refine di.af rfl (.tmp 2) rfl w.heap.size 0 rfl a (au.ah (HH.out.at (x := (w.heap.size, 92, a.cells.toArray)) (by simp))) ?_)
 with_reducible refine (ZO.out _ HH.out).mono ?_
 rintro e w1 ⟨rfl, bq⟩
 have HQ := qh (HH.out.call bq)
 clear bq HH
 have HH := HQ
 clear HQ
 clear ZO
 by_cases h0 : er = 0
 ·subst h0
  have HFA := qh (Hf a.T true w1)
  have hz1 : ((0 : Int) != 0) = false := rfl
  go_wp2_with fail
  with_reducible refine HFA.out.mono ?_
  rintro e w2 ⟨A2, c2, rfl, r2, kb, bq⟩
  have HQ := qh (HH.out.call bq)
  have HB1 := qh (show ∀ W, Below w2.heap.size w2 W → W.cell? ⟨w1.heap.size, 0, none⟩ = some (.bool true) from fun W h => (h.cell (World.block_lt_of_cell? w2 ⟨w1.heap.size, 0, none⟩ kb)).trans kb)
  have WU := qh (Fh a.T true w1.heap.size HE.out)
  have Wu := qh (fun W (h : Below w2.heap.size w2 W) => Cr a w1.heap.size W (IN.out.on ((HQ.out.call h).below) (Nat.le_refl _)) HN.out HZ0.out (HB1.out W h))
  have HEF := qh (Cq a.T true w1.heap.size)
  have hll : (jR a.T true w1.heap.size).length = 4 := rfl
  obtain ⟨L, hL⟩ : ∃ L, jR a.T true w1.heap.size = L := ⟨_, rfl⟩
  rw [hL] at r2 WU Wu HEF hll
  have R2 := qh r2
  have QK := qh hll
  have H2 := qh (Below.refl w2.heap.size w2)
  clear r2 kb bq HH HB1 hL HFA hz1 hll
  go_wp2_with fail
  go_loopw [20] (fun si wr => ∃ j : Nat, si = .int .i64 j ∧ j ≤ 4 ∧ Hid (∀ i (hi : i < L.length), i < j → L[i].v = false) ∧ Hid (Below w2.heap.size w2 wr)) (fun si _ => 4 - (intOf si).toNat)
  case atStart => exact ⟨0, rfl, by omega, qh (fun i _ h => absurd h (Nat.not_lt_zero _)), H2⟩
  case round =>
   clear H2
   obtain ⟨j, rfl, hj, HJ, H2⟩ := hrel
   by_cases hlt : j < 4
   ·have hd : decide ((j : Int) < 4) = true := by simp; omega
    have hlt2 : j < L.length := by rw [QK.out]; exact hlt
    have hi0 : (0 : Int) ≤ (j : Int) := by omega
    have hi1 : (j : Int) < 4 := by omega
    obtain ⟨g, o, hA, hg, hc⟩ := (R2.out.below H2.out).at Bf hlt2
    have HF1 := qh (rG L j hlt2 HJ.out)
    have HM := qh (List.getElem_mem hlt2)
    have HJ2 := qh (fun (h : (L[j]'hlt2).v = false) i (hi : i < L.length) (hij : i < j + 1) => show L[i].v = false by
     by_cases e : i = j
     ·subst e; exact h
     ·exact HJ.out i hi (by omega))
    obtain ⟨x, hx⟩ : ∃ x, L[j]'hlt2 = x := ⟨_, rfl⟩
    rw [hx] at hc HF1 HM HJ2
    have HX := qh hc
    have QW := qh hlt
    have ef := HEF.out x HM.out
    subst hA
    clear hc hx hg HJ hlt2
    obtain ⟨xf, Z5, xe, xv⟩ := x
    go_wp2_with (first
     | ((with_reducible refine az 22 ?_); refine Jo.af rfl (.tmp 22) rfl g (o + j * 2) rfl ⟨xf, Z5, xe, xv⟩ HX.out ?_)
     | ((with_reducible refine ag 8 23 ?_); refine Xg.aj rfl (.tmp 8) (.tmp 23) rfl rfl wr.heap.size ⟨xf, Z5, xe, xv⟩ rfl rfl 294 _ (ax.new wr 294 _) rfl ?_; intro w3 o3 b3
        have BE := ((Below.refl wr.heap.size wr).alloc (Nat.le_refl _) _).trans (o3.below (by simp))
        have B3 := qh (H2.out.trans (BE.mono H2.out.size))
        have X3 := qh b3
        have kf : w3.cell? ⟨wr.heap.size, 0, none⟩ = some (.func (.func xf) #[] Z5.toArray) := b3.cell 0
        clear o3 b3 BE)
     | ((with_reducible refine az 2 ?_); refine di.af rfl (.tmp 2) rfl w.heap.size 0 rfl a (au.ah ((HQ.out.call B3.out).at (x := (w.heap.size, 92, a.cells.toArray)) (by simp))) ?_)
     | (go_at_fn xf; refine (Wu.out w3 B3.out _ HM.out).mono ?_; rintro e w4 ⟨rfl, b4⟩
        have X4 := aa b4 X3.out X3.out.lt
        have ke : w4.cell? ⟨wr.heap.size, 1, none⟩ = some (.int .i64 xe) := X4.cell 1
        have B4 := qh (B3.out.trans (b4.mono B3.out.size))
        clear b4 X4 kf
        cases xv))
    ·go_roundw
     case rel => exact ⟨j + 1, by go_num, QW.out, qh (HJ2.out (by simp)), B4⟩
     case measure => have := QW.out; simp [intOf]; omega
    ·go_ret
     refine ⟨?_, (HQ.out.call B4.out).below⟩
     have h1 : jQ L = xe := by have h := HF1.out; simpa using h
     rw [← HC.out, WU.out, h1]
     rfl
   ·have hd : decide ((j : Int) < 4) = false := by simp; omega
    have HF0 := qh (uK L (fun i hi => HJ.out i hi (by have := QK.out; omega)))
    go_wp2_with fail
    go_ret
    refine ⟨?_, (HQ.out.call H2.out).below⟩
    rw [← HC.out, WU.out, HF0.out]
    rfl
 ·have hz1 : (er != 0) = true := by simpa using h0
  have HCE := qh (show ck = er by rw [← HC.out]; unfold fB; rw [HE.out, if_pos h0])
  clear h0
  go_wp2_with fail
  go_ret
  exact ⟨by rw [HCE.out]; rfl, HH.out.below⟩
end
section
open Go.RowKit
theorem Ic {l : List aD} {T : dX} {id : aS} {h : aQ .u32} {ap : List aD × List aD} (hc : gy T = true) (ha : iH l T id h = .ok ap) : ∃ u, iX aD.at_ jO l (iw id h true 0 T.outs) = some u ∧ ap = (u, []) := by
 unfold iH Aa at ha
 rw [hc] at ha
 simp only [if_true] at ha
 cases hm : iX aD.at_ jO l (iw id h true 0 T.outs) with
 | none => rw [hm] at ha; cases ha
 | some r => rw [hm] at ha; injection ha with ha; exact ⟨r, rfl, ha.symm⟩
theorem Fj {T : dX} (h : fB T true = 0) : gy T = true := by
 cases hc : gy T with
 | true => rfl
 | false =>
  exfalso
  unfold fB iL at h
  rw [hc] at h
  simp at h
  repeat (first | omega | split at h)
theorem Sk (a : aY) (id : aS) (h : aQ .u32) (A : Option Addr) (c : Nat) (l : List aD) (w : World) (ha : a.In w w.heap.size) (hl : aK aX 68 w w.heap.size A c l) (hn : l.length ≤ 300) (ho : a.T.outs.length ≤ 300) (hc : gy a.T = true) (u : List aD) (hu : iX aD.at_ jO l (iw id h true 0 a.T.outs) = some u) :
 Calls Tryz.prog 211 #[.slice A l.length c, .agg a.cells.toArray, .agg (ak id).toArray, .int .u32 h.1] w fun e w' => ∃ A1 c1 A2 c2, e = .returned (.tuple #[.slice A1 u.length c1, .slice A2 0 c2, .int .i64 0]) ∧ w'.ownsRow w.heap.size 317 68 (.slice A1 u.length c1) u.length (cellsOf aX u) ∧ w'.ownsRow w.heap.size 317 68 (.slice A2 0 c2) 0 [] ∧ Below w.heap.size w w' := by
 have H3 := qh (show Holds w [(w.heap.size + 2, 24, #[.int .u32 h.1]), (w.heap.size + 1, 26, (ak id).toArray), (w.heap.size, 92, a.cells.toArray)] (((w.alloc (.cells a.cells.toArray 92)).alloc (.cells (ak id).toArray 26)).alloc (.cells #[.int .u32 h.1] 24)) from by
  have := (((Holds.nil w).box 92 a.cells.toArray).box 26 (ak id).toArray).box 24 #[.int .u32 h.1]
  simpa only [World.size_alloc, Nat.add_assoc] using this)
 have IN := qh ha
 have HO := qh ho
 have HN := qh hn
 have HOF := qh (R5 A c l 275 #[.pointer (some ⟨w.heap.size + 2, 0, none⟩)] (((w.alloc (.cells a.cells.toArray 92)).alloc (.cells (ak id).toArray 26)).alloc (.cells #[.int .u32 h.1] 24)) ((hl.below H3.out.below).more H3.out.below.size) (by omega))
 obtain ⟨base, hbase⟩ : ∃ base, (((w.alloc (.cells a.cells.toArray 92)).alloc (.cells (ak id).toArray 26)).alloc (.cells #[.int .u32 h.1] 24)).heap.size = base := ⟨_, rfl⟩
 have Uc := qh (show base = w.heap.size + 3 by rw [← hbase]; simp)
 rw [hbase] at HOF
 clear ha hl ho hn
 go_enter Tryz.func211, Tryz.ntmps211
 go_wp2_with fail
 refine HOF.out.mono ?_
 rintro e w1 ⟨g, v1, rfl, sv, b1⟩
 have H1 := qh (H3.out.call (hbase ▸ b1))
 have S1 := qh (ML sv)
 clear sv b1 H3 HOF hbase
 have HCB := qh (show ∀ W, Holds w [(w.heap.size + 2, 24, #[.int .u32 h.1]), (w.heap.size + 1, 26, (ak id).toArray), (w.heap.size, 92, a.cells.toArray)] W → Calls Tryz.prog 198 #[.agg a.cells.toArray] W fun e w' => e = .returned (.bool true) ∧ Below W.heap.size W w' from fun W hW => hc ▸ zf a W (IN.out.on hW.below (Nat.le_refl _)))
 have HU := qh hu
 clear hc hu
 go_wp2_with ((with_reducible refine az 5 ?_); refine di.af rfl (.tmp 5) rfl w.heap.size 0 rfl a (au.ah (H1.out.at (x := (w.heap.size, 92, a.cells.toArray)) (by simp))) ?_)
 refine (HCB.out _ H1.out).mono ?_
 rintro e w2 ⟨rfl, b2⟩
 have HH := qh (H1.out.call b2)
 have SK := qh (S1.out.below b2)
 clear b2 H1 S1 HCB
 have k2 : w2.cell? ⟨w.heap.size, 2, none⟩ = some (.slice a.Ao a.T.outs.length a.co) := aY.c2 (au.ah (HH.out.at (x := (w.heap.size, 92, a.cells.toArray)) (by simp)))
 have k3 : w2.cell? ⟨w.heap.size + 2, 0, none⟩ = some (.int .u32 h.1) := (HH.out.at (x := (w.heap.size + 2, 24, #[.int .u32 h.1])) (by simp)).cell 0
 have HMD := qh (J5 a.Ao a.co a.T.outs id h true w2 (IN.out.on HH.out.below (Nat.le_refl _)).outs (by have := HO.out; omega))
 go_wp2_with ((with_reducible refine az 6 ?_); refine bL.af rfl (.tmp 6) rfl (w.heap.size + 1) 0 rfl id (au.ah (HH.out.at (x := (w.heap.size + 1, 26, (ak id).toArray)) (by simp))) ?_)
 refine HMD.out.mono ?_
 rintro e w4 ⟨gm, rfl, pm, hgm, b4⟩
 have PM := qh pm
 have B4 := qh (HH.out.below.trans (b4.mono HH.out.below.size))
 have S4 := qh (MN (K := [gm]) SK.out b4 (by intro b hb; rw [List.mem_singleton] at hb; subst hb; exact ⟨hgm, pm.lt⟩))
 have HAP := qh (show Calls Tryz.prog 279 #[.slice (some ⟨gm, 0, none⟩) a.T.outs.length a.T.outs.length, .func (.func 281) #[.pointer (some ⟨g, 0, none⟩)] #[]] w4 fun e w' => e = .returned (.bool (iX aD.at_ jO (l) (iw id h true 0 a.T.outs)).isSome) ∧ (∃ l', pM [gm] base g (.func (.func 275) #[] #[.pointer (some ⟨w.heap.size + 2, 0, none⟩)]) l' ([]) w' ∧ ∀ x, iX aD.at_ jO (l) (iw id h true 0 a.T.outs) = some x → x = l') ∧ Below base w4 w' ∧ Kept [gm] w4 w' from by
  have := TU [gm] base g (.func (.func 275) #[] #[.pointer (some ⟨w.heap.size + 2, 0, none⟩)]) (l) ([]) (iw id h true 0 a.T.outs) (some ⟨gm, 0, none⟩) a.T.outs.length w4 S4.out (by have := HN.out; omega) (fun V _ hK => JH (hK gm (by simp) PM.out.lt |>.trans PM.out) (by rw [kY]; exact Nat.le_refl _) (by have := HO.out; unfold maxLen; omega)) (by rw [kY]; have := HO.out; omega)
  rwa [kY] at this)
 clear pm hgm b4 HMD k2 k3 SK HH
 go_wp2_with fail
 refine HAP.out.mono ?_
 rintro e w5 ⟨rfl, ⟨l5, s5, hx5⟩, b5, k5⟩
 have B5 := qh (B4.out.trans (b5.mono (by have := Uc.out; omega)))
 have S5 := qh s5
 have X5 := qh hx5
 clear s5 hx5 b5 k5 HAP S4 PM B4
 rw [HU.out] at X5 ⊢
 obtain rfl := X5.out u rfl
 obtain ⟨v1, v2, sv, _⟩ := S5.out
 obtain ⟨A7, c7, rfl, r7⟩ := aK.fO bR sv.o1
 obtain ⟨A8, c8, rfl, r8⟩ := aK.fO bR sv.o2
 have SV := qh sv
 have R78 := qh (And.intro r7 r8)
 have HG := qh sv.blk.lt
 clear sv r7 r8 S5 X5
 go_wp2_with fail
 refine fE (by kernel_rfl) (by kernel_rfl) ?_
 repeat (first
  | ((with_reducible refine bI 40 ?_); refine aN (by rfl) 42 (.tmp 40) rfl ⟨g, 0, none⟩ rfl (.slice A7 u.length c7) Tryz.isAgg42 (fun V hC => (aa hC.below SV.out.blk HG.out).cell 0) ?_; simp only [Act.put, List.setIfInBounds_toArray, List.set_cons_succ, List.set_cons_zero])
  | ((with_reducible refine bI 44 ?_); refine aN (by rfl) 42 (.tmp 44) rfl ⟨g, 1, none⟩ rfl (.slice A8 ([]).length c8) Tryz.isAgg42 (fun V hC => (aa hC.below SV.out.blk HG.out).cell 1) ?_; simp only [Act.put, List.setIfInBounds_toArray, List.set_cons_succ, List.set_cons_zero])
  | (go_big_quiet_want; go_big_quiet_op; refine ⟨_, fun _ _ => by with_reducible rfl, ?_⟩; go_big_quiet_on)
  | go_big_quiet_step (fail))
 refine wpQuiet_nil ?_
 intro w9 hC
 go_wp2_with fail
 go_ret3
 exact ⟨A7, c7, A8, c8, rfl, aL (aW SV.out.o1 (by have := Uc.out; omega)) hC.below, aL (aW SV.out.o2 (by have := Uc.out; omega)) hC.below, B5.out.trans (hC.below.mono B5.out.size)⟩
theorem RQ (g : Nat) (t : TypeId) (rest : List Value) (U : jE) (a : aY) (w : World) (hb : ax w g t (U.cells ++ rest).toArray) (hT : UR t) (hc : aK aX 68 w w.heap.size U.Ac U.cc U.W.aV) (ha : a.In w w.heap.size) (hR : aM w) (hn : U.W.aV.length ≤ 300 ∧ iy a.T) (h0 : (wC a.T).2 = 0) (hcf : gy a.T = true) (u : List aD) (hu : iX aD.at_ jO U.W.aV (iw (wC a.T).1 U.W.h true 0 a.T.outs) = some u) :
 Calls Tryz.prog 142 #[.pointer (some ⟨g, 0, none⟩), .agg a.cells.toArray] w (FN g t rest U w (.ok (u, []))) := by
 have H0 := qh (show Y8 w g t (U.cells ++ rest).toArray a (w.alloc (.cells a.cells.toArray 92)) from ⟨(Holds.nil w).box 92 a.cells.toArray, hb.alloc _⟩)
 have IN := qh ha
 have CI := qh hc
 have RO := qh (show ∀ V, Below w.heap.size w V → aM V from fun _ hb => aM.below hR hb (aM.sH hR) (aM.qL hR))
 have HN := qh hn
 have HNT := qh hT
 obtain ⟨id, hid⟩ : ∃ id, (wC a.T).1 = id := ⟨_, rfl⟩
 have ID := qh (fun V (h : a.In V V.heap.size) (r : aM V) => show Calls Tryz.prog 95 #[.agg a.cells.toArray] V fun e w' => e = .returned (.tuple #[.agg (ak id).toArray, .int .i64 0]) ∧ Below V.heap.size V w' from hid ▸ (show (0 : Int) = (wC a.T).2 from h0.symm) ▸ Ph a V h r)
 have AP := qh (fun V (h1 : a.In V V.heap.size) (h2 : aK aX 68 V V.heap.size U.Ac U.cc U.W.aV) => Sk a id U.W.h U.Ac U.cc U.W.aV V h1 h2 HN.out.1 (by have := HN.out.2.o; omega) hcf u (hid ▸ hu))
 clear hid hcf hu ha hc hR hn hb h0 hT
 go_enter Tryz.func142, Tryz.ntmps142
 go_wp2_with fail
 refine wp_region_held_drew (S := Y8 w g t (U.cells ++ rest).toArray a) (by kernel_rfl) (H0.out.call (Below.refl _ _).drew) ?_
 clear H0
 intro hS
 refine tkp 0 (.pointer (some ⟨g, 0, none⟩)) rfl hS ?_
 go_simp
 refine tkp 1 (.pointer (some ⟨g, 0, none⟩)) rfl hS ?_
 go_simp
 refine tkp 2 (.pointer (some ⟨g, 1, none⟩)) rfl hS ?_
 go_simp
 refine tk 3 (.slice U.Ac U.W.aV.length U.cc) rfl (bJ (by rfl) 42 (.tmp 11) rfl ⟨g, 1, none⟩ rfl _ Tryz.isAgg42 (fun _ h => jK h.bb 1 _ rfl)) hS ?_
 go_simp
 refine tk 4 (.agg a.cells.toArray) rfl (di.aB (by rfl) (.tmp 3) rfl w.heap.size 0 rfl a (fun _ h => au.ah (h.hh.b (w.heap.size) (92) (a.cells.toArray) (by simp)))) hS ?_
 go_simp
 refine tk 5 (.agg a.cells.toArray) rfl (di.aB (by rfl) (.tmp 3) rfl w.heap.size 0 rfl a (fun _ h => au.ah (h.hh.b (w.heap.size) (92) (a.cells.toArray) (by simp)))) hS ?_
 go_simp
 refine tkp 10 (.pointer (some ⟨g, 0, none⟩)) rfl hS ?_
 go_simp
 refine tkp 11 (.pointer (some ⟨g, 0, none⟩)) rfl hS ?_
 go_simp
 refine tkp 12 (.pointer (some ⟨g, 0, none⟩)) rfl hS ?_
 go_simp
 refine tk 13 (.int .u32 U.W.h.1) rfl (bJ (by rfl) 24 (.tmp 21) rfl ⟨g, 0, none⟩ rfl _ Tryz.isAgg24 (fun _ h => jK h.bb 0 _ rfl)) hS ?_
 go_simp
 refine rd 6 rfl (fun Kq hK => ?_)
 go_simp
 with_reducible refine (ID.out _ (IN.out.on hS.hh.below (Nat.le_refl _)) (RO.out _ hS.hh.below)).mono ?_
 rintro e x6 ⟨rfl, bq⟩
 refine hK.out _ _ (hS.call bq) (fun hS => ?_)
 clear hK Kq bq
 go_simp
 refine tkp 7 (.agg (ak id).toArray) rfl hS ?_
 go_simp
 refine tkp 8 (.int .i64 0) rfl hS ?_
 go_simp
 refine rd 9 rfl (fun Kq hK => ?_)
 go_simp
 with_reducible refine (yg id _).mono ?_
 rintro e x9 ⟨rfl, bq⟩
 refine hK.out _ _ (hS.call bq) (fun hS => ?_)
 clear hK Kq bq
 go_simp
 refine rd 14 rfl (fun Kq hK => ?_)
 go_simp
 with_reducible refine (AP.out _ (IN.out.on hS.hh.below (Nat.le_refl _)) ((CI.out.below hS.hh.below).more hS.hh.below.size)).mono ?_
 rintro e x14 ⟨A1, c1, A2, c2, rfl, o1, o2, bq⟩
 have O1 := qh (aW o1 hS.hh.below.size)
 have O2 := qh (aW o2 hS.hh.below.size)
 refine hK.out _ _ (hS.call bq) (fun hS => ?_)
 clear hK Kq bq o1 o2
 go_simp
 refine tkp 15 (.tuple #[.slice A1 u.length c1, .slice A2 0 c2, .int .i64 0]) rfl hS ?_
 go_simp
 refine tkp 16 (.slice A1 u.length c1) rfl hS ?_
 go_simp
 refine tkp 17 (.slice A2 0 c2) rfl hS ?_
 go_simp
 refine tkp 18 (.int .i64 0) rfl hS ?_
 go_simp
 refine rd 19 rfl (fun Kq hK => ?_)
 go_simp
 refine hK.out _ _ hS (fun hS => ?_)
 clear hK Kq
 go_simp
 refine rd 20 rfl (fun Kq hK => ?_)
 go_simp
 refine hK.out _ _ hS (fun hS => ?_)
 clear hK Kq
 go_simp
 refine rd 21 rfl (fun Kq hK => ?_)
 go_simp
 refine hK.out _ _ hS (fun hS => ?_)
 clear hK Kq
 go_simp
 refine wpAnyH_done (by kernel_rfl) ?_ _
 have P1 := qh (Past.of_below (g := g) hS.hh.below)
 have B1 := qh hS.bb
 clear hS ID AP
 go_wp2_with fail
 refine (qb _).mono ?_
 rintro e w2 ⟨rfl, rfl⟩
 go_wp2_with ((with_reducible refine ag 32 30 ?_); refine aJ rfl 42 (.tmp 32) (.tmp 30) rfl rfl g 1 (.slice A1 u.length c1) rfl rfl rfl t _ B1.out (by rw [xh]; omega) (by kernel_rfl) ?_; intro w9 o9 b9)
 go_ret
 rw [BC] at b9
 exact ⟨P1.out.trans (Past.kM o9), A1, c1, A2, c2, rfl, b9, aI O1.out o9 B1.out HNT.out.c, aI O2.out o9 B1.out HNT.out.c⟩
end
section
open Go.RowKit
theorem Lc {c : C0} {B : bK} {l : List rM} {T : dX} {y : C0} (h : vW c B l = .ok y) (ht : B.bG = [T]) :
 B.prev = c.gB ∧ (gX B).2 = 0 ∧ (gX B).1.length ≤ 20000 ∧ jW B.bG ≤ 60 ∧ fB T true = 0 ∧ EU T.exp.1 (dV c).h.1 = false ∧ ∃ a p tt, iH (dV c).aV T (wC T).1 (dV c).h = .ok a ∧ jM (dV c) T = .ok p ∧ ja c.tree B = .ok tt ∧ y = ⟨(dV c).h, (qY B).1, a.1, (dV c).av, tt, ou c.ring B.root, p⟩ := by
 rw [Ty, show kI B = T by unfold kI; rw [ht]; rfl] at h
 split at h
 ·cases h
 rename_i h1
 split at h
 ·cases h
 rename_i h2
 split at h
 ·cases h
 rename_i h3
 split at h
 ·cases h
 rename_i h4
 split at h
 ·cases h
 rename_i h5
 rw [ht, show qw l (dV c) ([T].drop 1) = .ok (dV c) from rfl] at h
 simp only [VJ] at h
 refine ⟨by simpa using h1, by simpa using h2, by omega, by omega, by simpa using h4, by simpa using h5, ?_⟩
 cases hc : jH (dV c) T with
 | error e => rw [hc] at h; cases h
 | ok q =>
  rw [hc] at h
  simp only [Qb] at h
  cases hr : ja c.tree B with
  | error e => rw [hr] at h; cases h
  | ok tt =>
   rw [hr] at h
   simp only [UM] at h
   injection h with h
   cases ha : iH (dV c).aV T (wC T).1 (dV c).h with
   | error e => rw [Lg ha] at hc; cases hc
   | ok a =>
    rw [Lf ha] at hc
    cases hs : jM (dV c) T with
    | error e => rw [hs] at hc; cases hc
    | ok p =>
     rw [hs] at hc
     injection hc with hc
     subst hc
     exact ⟨a, p, tt, rfl, rfl, rfl, h.symm⟩
theorem Xq (d : CA) (b : bF) (t1 : aY) (Al : Option Addr) (n cl : Nat) (l : List rM) (v : CV) (w : World) (hd : d.In w w.heap.size) (hb : b.In w w.heap.size) (hR : aM w) (hn : Uh d b l.length) (hts : b.bG = [t1]) (hnl : t1.T.av = []) (hx : kH d.V b.B l = .ok v) :
 Calls Tryz.prog 89 #[.agg d.cells.toArray, .agg b.cells.toArray, .slice Al n cl] w (Uf w (.ok v)) := by
 obtain ⟨Z, hZ, hz, hzs, hzn⟩ := bB dZ fQ
 have HS := qh hzs
 have HH := qh (show Holds w [(w.heap.size + 2, 45, Z), (w.heap.size + 1, 70, b.cells.toArray), (w.heap.size, 45, d.cells.toArray)] (((w.alloc (.cells d.cells.toArray 45)).alloc (.cells b.cells.toArray 70)).alloc (.cells Z 45)) by
  have := (((Holds.nil w).box 45 d.cells.toArray).box 70 b.cells.toArray).box 45 Z
  simpa only [World.size_alloc, Nat.add_assoc] using this)
 have DI := qh hd
 have IB := qh hb
 have HN := qh hn
 have HMB := qh (SI hn.h)
 have RO := qh (show ∀ V, Below w.heap.size w V → aM V from fun _ hb => aM.below hR hb (aM.sH hR) (aM.qL hR))
 have RLT := qh (show 0 < w.heap.size ∧ 1 < w.heap.size from ⟨aM.sH hR, aM.qL hR⟩)
 have hB : b.B.bG = [t1.T] := by unfold bF.B; rw [hts]; rfl
 obtain ⟨c1, hc1, hv⟩ : ∃ c1, vW d.c.C b.B l = .ok c1 ∧ v = ⟨c1, bU 4 (d.past.map eB.S ++ [(b.B, d.c.C)])⟩ := by
  unfold kH at hx
  cases hc : vW d.V.c b.B l with
  | error e => rw [hc] at hx; cases hx
  | ok c1 =>
   rw [hc] at hx
   injection hx with hx
   exact ⟨c1, hc, hx.symm⟩
 obtain ⟨p1, p2, p3, p4, p5, p6, ap, pl, tt, p7, p8, p9, Xw⟩ := Lc hc1 hB
 subst Xw
 have WU := qh (Fj p5)
 obtain ⟨u, hu, rfl⟩ := Ic WU.out p7
 have HV := qh hv
 have ZJ := qh hts
 have HOB := qh (show pI b.B from by
  rcases wF b.B with h1 | ⟨e, h1, h2⟩
  ·exact h1.1
  ·rw [h1] at p2
   have : e = 0 := p2
   omega)
 have HIE := qh (Td p2)
 obtain ⟨sb, hsb⟩ : ∃ sb : ByteArray, (⟨(gX b.B).1.toArray⟩ : ByteArray) = sb := ⟨_, rfl⟩
 have zB := qh (show sb.size ≤ 20000 by rw [← hsb]; exact p3)
 have EN := qh (fun V (h : b.In V V.heap.size) => show Calls Tryz.prog 26 #[.agg b.cells.toArray] V fun e w' => e = .returned (.tuple #[.string sb, .int .i64 0]) ∧ Below V.heap.size V w' from hsb ▸ p2 ▸ Cw b V h HMB.out)
 obtain ⟨sg, hsg⟩ : ∃ sg, jW b.B.bG = sg := ⟨_, rfl⟩
 have SG := qh (fun V (h : b.In V V.heap.size) => hsg ▸ MK b V h HN.out.h)
 have YM := qh (show sg ≤ 60 by rw [← hsg]; exact p4)
 have HQ := qh (show decide (b.prev = d.c.C.gB) = true from decide_eq_true p1)
 have IT1 := qh (fun V (hb : Below w.heap.size w V) => (((IB.out.each t1 (by rw [ZJ.out]; exact List.mem_cons_self)).below hb).more hb.size : t1.In V V.heap.size))
 have aaE := qh (fun V (hb : Below w.heap.size w V) => ((IB.out.each t1 (by rw [ZJ.out]; exact List.mem_cons_self)).below hb : t1.In V w.heap.size))
 have S1 := qh (HN.out.l.b.t t1 (by rw [ZJ.out]; exact List.mem_cons_self))
 have CK := qh (fun V (h : t1.In V V.heap.size) => p5 ▸ Si t1 V h S1.out hnl)
 have Ud := qh (Ht p5)
 have aaI := qh (VR p5)
 have P6 := qh p6
 have P7 := qh hu
 have P8 := qh p8
 have P9 := qh p9
 have UU := qh (show b.bG.length = 1 by rw [hts]; rfl)
 clear hB hx hc1 hv p1 p2 p3 p4 p5 p6 p7 hu p8 p9 hsb hsg hts hnl hZ hzs hd hb hn hR
 go_enter Tryz.func89, Tryz.ntmps89
 go_wp2_with (first
  | ((with_reducible refine az 11 ?_); refine bL.af rfl (.tmp 11) rfl (w.heap.size + 1) 0 rfl b.prev (bF.c0 (au.ah (HH.out.b (w.heap.size + 1) (70) (b.cells.toArray) (by simp)))) ?_)
  | ((with_reducible refine az 13 ?_); refine bL.af rfl (.tmp 13) rfl w.heap.size 1 rfl d.c.C.gB (eT.c1 (au.ah (HH.out.b (w.heap.size) (45) (d.cells.toArray) (by simp)))) ?_)
  | ((with_reducible refine xB 12 14 ?_); refine iZ (by rfl) 26 26 (.tmp 12) (.tmp 14) rfl (ak b.prev).toArray (ak d.c.C.gB).toArray rfl rfl (by kernel_rfl) true (fun V => HQ.out ▸ jw _ _ V) ?_; simp only [Act.put, List.setIfInBounds_toArray, List.set_cons_succ, List.set_cons_zero]))
 refine (jX 163 _).mono ?_
 rintro e w0 ⟨rfl, rfl⟩
 clear HQ
 go_wp2_with ((with_reducible refine az 4 ?_); refine fe.af rfl (.tmp 4) rfl (w.heap.size + 1) 0 rfl b (au.ah (HH.out.b (w.heap.size + 1) (70) (b.cells.toArray) (by simp))) ?_)
 refine (EN.out _ (IB.out.on HH.out.below (Nat.le_refl _))).mono ?_
 rintro e w1 ⟨rfl, bq⟩
 have HQ := qh (HH.out.call bq)
 clear HH
 have HH := HQ
 clear HQ
 clear bq
 clear EN
 go_wp2_with fail
 refine (Gn _ _).mono ?_
 rintro e w2 ⟨rfl, rfl⟩
 have hq1 : decide ((sb.size : Int) ≤ (20000 : Int)) = true := by have := zB.out; simp; omega
 have aao : decide (sb.size ≤ 20000) = true := decide_eq_true zB.out
 go_wp2_with ((with_reducible refine fq 4 ?_); refine fe.af (by rfl) (.tmp 4) rfl (w.heap.size + 1) 0 rfl b (au.ah (HH.out.b (w.heap.size + 1) (70) (b.cells.toArray) (by simp))) ?_)
 refine (SG.out _ (IB.out.on HH.out.below (Nat.le_refl _))).mono ?_
 rintro e w3 ⟨rfl, bq⟩
 have HQ := qh (HH.out.call bq)
 clear HH
 have HH := HQ
 clear HQ
 clear bq
 clear SG hq1 aao
 have hq2 : decide ((sg : Int) ≤ (60 : Int)) = true := by have := YM.out; simp; omega
 have aan : decide (sg ≤ 60) = true := decide_eq_true YM.out
 go_wp2_with fail
 refine (jX 51 _).mono ?_
 rintro e w4 ⟨rfl, rfl⟩
 clear hq2 aan
 go_wp2_with fail
 refine wp_region_held_drew (S := Holds w [(w.heap.size + 2, 45, Z), (w.heap.size + 1, 70, b.cells.toArray), (w.heap.size, 45, d.cells.toArray)]) (by kernel_rfl) (HH.out.call (Below.refl _ _).drew) ?_
 clear HH
 intro hS
 refine tk 0 (.agg d.cells.toArray) rfl (cO.aB (by rfl) (.tmp 3) rfl w.heap.size 0 rfl d (fun _ h => au.ah (h.b (w.heap.size) (45) (d.cells.toArray) (by simp)))) hS ?_
 go_simp
 refine tk 2 (.agg d.cells.toArray) rfl (cO.aB (by rfl) (.tmp 3) rfl w.heap.size 0 rfl d (fun _ h => au.ah (h.b (w.heap.size) (45) (d.cells.toArray) (by simp)))) hS ?_
 go_simp
 refine tk 3 (.agg b.cells.toArray) rfl (fe.aB (by rfl) (.tmp 4) rfl (w.heap.size + 1) 0 rfl b (fun _ h => au.ah (h.b (w.heap.size + 1) (70) (b.cells.toArray) (by simp)))) hS ?_
 go_simp
 refine rd 1 rfl (fun Kq hK => ?_)
 go_simp
 with_reducible refine (yf d _ (DI.out.c.on hS.below (Nat.le_refl _)) HN.out.l.c).mono ?_
 rintro e x1 ⟨y0, hy0, rfl, oy0, bq⟩
 have OY := qh (oy0.mono hS.below.size)
 have HY0 := qh hy0
 refine hK.out _ _ (hS.call bq) (fun hS => ?_)
 clear hK Kq bq oy0 hy0
 go_simp
 refine tk 4 (.agg (⟨aP y0, d, b⟩ : rz).cells.toArray) rfl (bH (by rfl) 222 #[(0, .tmp 31), (1, .tmp 32), (2, .tmp 33)] rfl (⟨aP y0, d, b⟩ : rz).cells.toArray ((congrArg (Tryz.prog.built 222) (show _ = [(0, Value.agg (aP y0).cells.toArray), (1, Value.agg d.cells.toArray), (2, Value.agg b.cells.toArray)] by kernel_rfl)).trans (OJ (⟨aP y0, d, b⟩ : rz) 222 rfl))) hS ?_
 go_simp
 refine rd 5 rfl (fun Kq hK => ?_)
 go_simp
 have bl : Below x1.heap.size x1 (x1.alloc (.cells (⟨aP y0, d, b⟩ : rz).cells.toArray 222)) := (Below.refl _ _).alloc (Nat.le_refl _) _
 have KL := qh (show ax (x1.alloc (.cells (⟨aP y0, d, b⟩ : rz).cells.toArray 222)) x1.heap.size 222 (⟨aP y0, d, b⟩ : rz).cells.toArray from ax.new x1 222 (⟨aP y0, d, b⟩ : rz).cells.toArray)
 have OY2 := qh (OY.out.from bl)
 have WT := qh (show w.heap.size + 2 < x1.heap.size from (hS.b (w.heap.size + 2) (45) (Z) (by simp)).lt)
 refine hK.out _ _ (hS.call bl) (fun hS => ?_)
 clear hK Kq bl OY
 go_simp
 refine rd 6 rfl (fun Kq hK => ?_)
 go_simp
 refine hK.out _ _ hS (fun hS => ?_)
 clear hK Kq
 go_simp
 refine wpAnyH_done (by kernel_rfl) ?_ _
 have HH := qh hS
 clear hS
 obtain ⟨V1, hV1⟩ : ∃ V1, x1.alloc (.cells (⟨aP y0, d, b⟩ : rz).cells.toArray 222) = V1 := ⟨_, rfl⟩
 obtain ⟨g, hg⟩ : ∃ g, x1.heap.size = g := ⟨_, rfl⟩
 rw [hV1, hg] at KL
 rw [hV1] at HH OY2
 rw [hg] at WT
 rw [hV1, hg]
 clear hV1 hg
 obtain ⟨gt, ot, hA, hgt, hct⟩ := (IB.out.row.below HH.out.below).at aY.len (i := 0) (by rw [UU.out]; omega)
 have hx0 : b.bG[0]'(by rw [UU.out]; omega) = t1 := by simp [ZJ.out]
 rw [hx0, Nat.zero_mul, Nat.add_zero] at hct
 have HC := qh hct
 have k3 := bF.c3 (au.ah (HH.out.b (w.heap.size + 1) (70) (b.cells.toArray) (by simp)))
 rw [hA, UU.out] at k3
 clear hx0 hct hgt
 obtain ⟨Zt, hZt, hzt, Pk, aah⟩ := bB oh uo
 have HST := qh Pk
 clear hZt Pk
 go_wp2_with (first
  | ((with_reducible refine az 38 ?_); refine di.af rfl (.tmp 38) rfl gt ot rfl t1 HC.out ?_)
  | ((with_reducible refine ag 8 39 ?_); refine di.aj rfl (.tmp 8) (.tmp 39) rfl rfl V1.heap.size t1 rfl rfl 92 _ (ax.new _ _ _) (by rw [HST.out]) ?_; intro V2 ox bx; have bl : Below V1.heap.size V1 V2 := ((Below.refl _ _).alloc (Nat.le_refl _) _).trans (ox.below (by simp)); have H2 := qh (HH.out.put ox bx); have KL2 := qh (aa bl KL.out KL.out.lt); have OY3 := qh (OY2.out.from bl); have ZN := qh (show g < V1.heap.size from KL.out.lt); clear ox bx bl HH KL OY2)
  | ((with_reducible refine az 8 ?_); refine di.af rfl (.tmp 8) rfl V1.heap.size 0 rfl t1 (au.ah (H2.out.b (V1.heap.size) (92) (t1.cells.toArray) (by simp))) ?_))
 clear k3 HC
 obtain ⟨gb, hgb⟩ : ∃ gb, V1.heap.size = gb := ⟨_, rfl⟩
 rw [hgb] at H2 ZN ⊢
 clear hgb
 refine (CK.out _ (IT1.out _ H2.out.below)).mono ?_
 rintro e V3 ⟨rfl, bq⟩
 have HH := qh (H2.out.call bq)
 have KL3 := qh (aa bq KL2.out KL2.out.lt)
 have OY4 := qh (OY3.out.from bq)
 clear bq CK H2 KL2 OY3
 have UX := qh (fun V (h : ax V g 222 (⟨aP y0, d, b⟩ : rz).cells.toArray) => M5 g 222 (d.cells ++ b.cells) (aP y0) t1 V h false (by rw [← P6.out, ← HY0.out]; rfl))
 go_wp2_with fail
 refine (qb _).mono ?_
 rintro e w2 ⟨rfl, rfl⟩
 go_wp2_with fail
 refine wp_region_held_drew (S := fun V => Holds w [(gb, 92, t1.cells.toArray), (w.heap.size + 2, 45, Z), (w.heap.size + 1, 70, b.cells.toArray), (w.heap.size, 45, d.cells.toArray)] V ∧ ax V g 222 (⟨aP y0, d, b⟩ : rz).cells.toArray) (by kernel_rfl) ⟨HH.out.call (Below.refl _ _).drew, KL3.out.drew⟩ ?_
 have OY5 := qh (OY4.out.from (Below.refl _ _).drew)
 clear HH KL3 OY4
 intro hS
 refine tkp 0 (.pointer (some ⟨g, 0, none⟩)) rfl hS ?_
 go_simp
 refine tkp 1 (.pointer (some ⟨g, 0, none⟩)) rfl hS ?_
 go_simp
 refine tkp 2 (.pointer (some ⟨g, 0, none⟩)) rfl hS ?_
 go_simp
 refine tk 3 (.agg t1.cells.toArray) rfl (di.aB (by rfl) (.tmp 8) rfl gb 0 rfl t1 (fun _ h => au.ah (h.1.b (gb) (92) (t1.cells.toArray) (by simp)))) hS ?_
 go_simp
 refine rd 4 rfl (fun Kq hK => ?_)
 go_simp
 with_reducible refine (UX.out _ hS.2).mono ?_
 rintro e x4 ⟨he1, he2, bq⟩
 obtain rfl := he1 trivial
 have Wj := qh (OY5.out.from bq)
 refine hK.out _ _ ⟨hS.1.call bq, aa bq hS.2 hS.2.lt⟩ (fun hS => ?_)
 clear hK Kq bq he1 he2 OY5 UX
 refine wpAnyH_done (by kernel_rfl) ?_ _
 have L0 := qh (show UT w g [(gb, 92, t1.cells.toArray), (w.heap.size + 2, 45, Z), (w.heap.size + 1, 70, b.cells.toArray), (w.heap.size, 45, d.cells.toArray)] d b (aP y0) x4 from ⟨hS.1, hS.2, Wj.out.aV, Wj.out.av, Wj.out.ring⟩)
 clear hS Wj hA
 have k3 : x4.cell? ⟨w.heap.size + 1, 65, none⟩ = some (.slice b.A 1 b.c) := by have := bF.c3 (au.ah (L0.out.h.b (w.heap.size + 1) (70) (b.cells.toArray) (by simp))); rwa [UU.out] at this
 obtain ⟨At, hAt⟩ : ∃ At, iN 38 b.c 1 b.A = At := ⟨_, rfl⟩
 have hle := IB.out.row.le
 rw [UU.out] at hle
 have hsl : ∀ W, (Instr.slice 68 (.slice b.A 1 b.c) (some (.int .i64 1)) none none).run Tryz.prog W = .ok (.slice At 0 (b.c - 1)) W := fun W => hAt ▸ mD.fG W b.A 1 b.c 1 (by omega)
 clear hAt hle
 go_wp2_with fail
 clear hsl k3
 refine wp_loop_rounds 1 ?_
 rw [rounds_succ]
 have YK := qh (show dV d.c.C = (aP y0).W from by rw [← HY0.out]; rfl)
 have HGW := qh (show ∃ k, rQ k (aP y0).W ∧ k ≤ 300 from by
  obtain ⟨k, gd, hk⟩ := HN.out.k
  exact ⟨k, YK.out ▸ gd.start, by omega⟩)
 go_wp2_with fail
 refine wp_region_held_drew (S := fun V => ax V gb 92 t1.cells.toArray) (by kernel_rfl) (L0.out.h.b (gb) (92) (t1.cells.toArray) (by simp)).drew ?_
 have H6 := qh (L0.out.call (Below.refl _ _).drew)
 clear L0
 intro hS
 refine tkp 0 (.pointer (some ⟨g, 0, none⟩)) rfl hS ?_
 go_simp
 refine tkp 1 (.pointer (some ⟨g, 0, none⟩)) rfl hS ?_
 go_simp
 refine tkp 2 (.pointer (some ⟨g, 0, none⟩)) rfl hS ?_
 go_simp
 refine tk 3 (.agg t1.cells.toArray) rfl (di.aB (by rfl) (.tmp 8) rfl gb 0 rfl t1 (fun _ h => au.ah h)) hS ?_
 go_simp
 have AC := qh (show Calls _ _ _ _ (FN g 222 (d.cells ++ b.cells) (aP y0) _ (Except.ok (u, []))) from RQ g 222 (d.cells ++ b.cells) (aP y0) t1 _ H6.out.k Vk H6.out.rows.aV (IT1.out _ H6.out.h.below) (RO.out _ H6.out.h.below) (by obtain ⟨k, gd, hk⟩ := HGW.out; exact ⟨by have := gd.n; omega, S1.out⟩) aaI.out WU.out u (YK.out ▸ P7.out))
 refine rd 4 rfl (fun Kq hK => ?_)
 go_simp
 with_reducible refine AC.out.mono ?_
 rintro e V7 ⟨p7, A1, c1, A2, c2, rfl, b7, o1, o2⟩
 clear AC
 have L7 := qh (show UT w g [(gb, 92, t1.cells.toArray), (w.heap.size + 2, 45, Z), (w.heap.size + 1, 70, b.cells.toArray), (w.heap.size, 45, d.cells.toArray)] d b (⟨{ (aP y0).W with aV := u }, A1, c1, (aP y0).An, (aP y0).cn, (aP y0).Ar, (aP y0).cr⟩ : jE) V7 from ⟨H6.out.h.Ec p7 (by have := WT.out; omega) (by have := WT.out; have := ZN.out; simp; omega), b7, aW o1 H6.out.h.below.size, nI H6.out.n H6.out.k (by decide) p7, nI H6.out.r H6.out.k (by decide) p7⟩)
 have KT := qh (p7.blk hS (by have := ZN.out; omega))
 refine hK.out _ _ KT.out (fun _ => ?_)
 clear hK Kq p7 b7 o1 o2 H6 hS
 refine wpAnyH_done (by kernel_rfl) ?_ _
 have SC := qh (show Calls _ _ _ _ (Bw g 222 (d.cells ++ b.cells) (⟨{ (aP y0).W with aV := u }, A1, c1, (aP y0).An, (aP y0).cn, (aP y0).Ar, (aP y0).cr⟩ : jE) _ (Except.ok pl)) from (show jM (⟨{ (aP y0).W with aV := u }, A1, c1, (aP y0).An, (aP y0).cn, (aP y0).Ar, (aP y0).cr⟩ : jE).W t1.T = Except.ok pl from (show jM (aP y0).W t1.T = Except.ok pl from YK.out ▸ P8.out)) ▸ JN g 222 (d.cells ++ b.cells) (⟨{ (aP y0).W with aV := u }, A1, c1, (aP y0).An, (aP y0).cn, (aP y0).Ar, (aP y0).cr⟩ : jE) t1 _ L7.out.k ((aaE.out _ L7.out.h.below).more (by have := WT.out; omega)) S1.out Ud.out (by obtain ⟨k, gd, hk⟩ := HGW.out; exact gU gd.f))
 go_wp2_with ((with_reducible refine az 8 ?_); refine di.af rfl (.tmp 8) rfl gb 0 rfl t1 (au.ah KT.out) ?_)
 refine SC.out.mono ?_
 rintro e V8 ⟨p8, rfl, cm, b8⟩
 clear SC
 have L8 := qh (show UT w g [(gb, 92, t1.cells.toArray), (w.heap.size + 2, 45, Z), (w.heap.size + 1, 70, b.cells.toArray), (w.heap.size, 45, d.cells.toArray)] d b (⟨{ (aP y0).W with aV := u, pool := pl, came := cm }, A1, c1, (aP y0).An, (aP y0).cn, (aP y0).Ar, (aP y0).cr⟩ : jE) V8 from ⟨L7.out.h.Ec p8 (by have := WT.out; omega) (by have := WT.out; have := ZN.out; simp; omega), b8, nI L7.out.c L7.out.k (by decide) p8, nI L7.out.n L7.out.k (by decide) p8, nI L7.out.r L7.out.k (by decide) p8⟩)
 clear p8 b8 L7 KT
 have GC := qh (show Calls _ _ _ _ (zx w.heap.size (⟨{ (aP y0).W with aV := u, pool := pl, came := cm }, A1, c1, (aP y0).An, (aP y0).cn, (aP y0).Ar, (aP y0).cr⟩ : jE) d b _ (Except.ok tt)) from P9.out ▸ M7 g w.heap.size (⟨(⟨{ (aP y0).W with aV := u, pool := pl, came := cm }, A1, c1, (aP y0).An, (aP y0).cn, (aP y0).Ar, (aP y0).cr⟩ : jE), d, b⟩ : rz) V8 L8.out.k (DI.out.on L8.out.h.below (Nat.le_refl _)) (IB.out.on L8.out.h.below (Nat.le_refl _)) (dm aC L8.out.r) L8.out.c L8.out.n L8.out.h.below.size (RO.out _ L8.out.h.below) ⟨HN.out.l, (by obtain ⟨k, gd, hk⟩ := HGW.out; show (aP y0).W.ring.length ≤ 200; have := gd.g; omega), HN.out.o, HN.out.h, HMB.out, HIE.out⟩)
 go_wp2_with fail
 refine GC.out.mono ?_
 rintro e V9 ⟨b9, y9, hy9, rfl, o9⟩
 clear GC
 have H9 := qh (L8.out.h.call b9)
 have O9 := qh o9
 have HY9 := qh hy9
 clear b9 o9 hy9 L8
 go_wp2_with ((with_reducible refine ag 6 72 ?_); refine cO.aj rfl (.tmp 6) (.tmp 72) rfl rfl (w.heap.size + 2) y9 rfl rfl 45 _ (H9.out.b (w.heap.size + 2) (45) (Z) (by simp)) (by rw [HS.out]) ?_; intro wz oz bz)
 refine bodyPost_ret (aU rfl _ _ (w.heap.size + 2) 45 _ (0, 0) _ rfl bz Tryz.underlying45 rfl (by rw [cO.arr]; kernel_rfl)) rfl ?_
 refine ⟨H9.out.below.trans (oz.below (by simp)), y9, ?_, rfl, O9.out.only oz (H9.out.b (w.heap.size + 2) (45) (Z) (by simp)) mZ⟩
 have hur : d.c.C.ring = (aP y0).W.ring := by rw [← YK.out]; rfl
 rw [HV.out, YK.out, hur]
 exact HY9.out
end
section
open Go.RowKit
theorem Vg (gc gb gl gd : Nat) (Z : Array Value) (hZ : Z.size = 1062 + 1) (d : CA) (b : bF) (Al : Option Addr) (n cl : Nat) (l : List rM) (w : World) (h1 : ax w gc 45 d.cells.toArray) (h2 : ax w gb 70 b.cells.toArray)  (h3 : ax w gl 77 #[.slice Al n cl]) (h4 : ax w gd 45 Z) (hd : d.In w w.heap.size) (hb : b.In w w.heap.size) (hR : aM w) (hn : Uh d b l.length) (t1 : aY) (hts : b.bG = [t1]) (hnl : t1.T.av = []) (v : CV) (hx : kH d.V b.B l = .ok v) :
 Calls Tryz.prog 88 #[.pointer (some ⟨gc, 0, none⟩), .pointer (some ⟨gb, 0, none⟩), .pointer (some ⟨gl, 0, none⟩), .pointer (some ⟨gd, 0, none⟩)] w (Y0 gd w (.ok v)) := by
 have HA := qh (Xq d b t1 Al n cl l v w hd hb hR hn hts hnl hx)
 have kl := h3.cell 0
 simp only [List.getElem?_toArray, List.getElem?_cons_zero] at kl
 have H1 := qh h1
 have H2 := qh h2
 have H4 := qh h4
 have HZ := qh hZ
 clear h1 h2 h3 h4 hZ hd hb hR hn hts hnl hx
 go_enter Tryz.func88, Tryz.ntmps88
 go_wp2_with (first
  | ((with_reducible refine az 0 ?_); refine cO.af rfl (.tmp 0) rfl gc 0 rfl d (au.ah H1.out) ?_)
  | ((with_reducible refine az 1 ?_); refine fe.af rfl (.tmp 1) rfl gb 0 rfl b (au.ah H2.out) ?_))
 clear kl
 refine HA.out.mono ?_
 rintro e w1 ⟨p1, y, hy, rfl, o1⟩
 have B4 := qh (aa p1 H4.out H4.out.lt)
 have P1 := qh p1
 have HY := qh hy
 have O1 := qh o1
 clear p1 hy o1 HA H1 H2 H4
 go_wp2_with ((with_reducible refine ag 3 7 ?_); refine cO.aj rfl (.tmp 3) (.tmp 7) rfl rfl gd y rfl rfl 45 _ B4.out HZ.out ?_; intro w2 o2 b2)
 exact ⟨rfl, .tuple #[], by simp [results, Tryz.results88], w1, P1.out, y, HY.out, rfl, o2, b2, O1.out.only o2 B4.out mZ⟩
theorem Vf (d : CA) (b : bF) (Al : Option Addr) (n cl : Nat) (l : List rM) (w : World) (hd : d.In w w.heap.size) (hb : b.In w w.heap.size) (hR : aM w) (hn : Uh d b l.length) (t1 : aY) (hts : b.bG = [t1]) (hnl : t1.T.av = []) (v : CV) (hx : kH d.V b.B l = .ok v) :
 Calls Tryz.prog 52 #[.agg d.cells.toArray, .agg b.cells.toArray, .slice Al n cl] w (Ug w (.ok v)) := by
 obtain ⟨Z, hZ, hz, hzs, hzn⟩ := bB dZ fQ
 have HS := qh (And.intro hzs hZ)
 have H0 := qh (show Holds w [(w.heap.size + 3, 45, Z), (w.heap.size + 2, 77, #[.slice Al n cl]), (w.heap.size + 1, 70, b.cells.toArray), (w.heap.size, 45, d.cells.toArray)] ((((w.alloc (.cells d.cells.toArray 45)).alloc (.cells b.cells.toArray 70)).alloc (.cells #[.slice Al n cl] 77)).alloc (.cells Z 45)) by
  have := ((((Holds.nil w).box 45 d.cells.toArray).box 70 b.cells.toArray).box 77 #[.slice Al n cl]).box 45 Z
  simpa only [World.size_alloc, Nat.add_assoc] using this)
 have DI := qh hd
 have IB := qh hb
 have H3 := qh (And.intro hts (And.intro hnl hx))
 have HN := qh hn
 have RO := qh hR
 clear hd hb hn hR hts hnl hx hZ hzs
 have ED : ∀ (fn : Fn) (first cap : Array Value) (w : World), (Instr.makeFunc fn first cap).run Tryz.prog w = .ok (.func fn first cap) w := fun _ _ _ _ => rfl
 go_enter Tryz.func52, Tryz.ntmps52
 go_wp2_with fail
 clear ED
 obtain ⟨V0, Vx⟩ : ∃ V0, ((((w.alloc (.cells d.cells.toArray 45)).alloc (.cells b.cells.toArray 70)).alloc (.cells #[.slice Al n cl] 77)).alloc (.cells Z 45)) = V0 := ⟨_, rfl⟩
 have QH := qh (show V0.heap.size = w.heap.size + 4 by rw [← Vx]; simp)
 rw [Vx] at H0 ⊢
 clear Vx
 obtain ⟨V1, hV1⟩ : ∃ V1, V0.alloc (.cells #[.int .i64 0] 30) = V1 := ⟨_, rfl⟩
 have H1 := qh (show Holds w [(w.heap.size + 3, 45, Z), (w.heap.size + 2, 77, #[.slice Al n cl]), (w.heap.size + 1, 70, b.cells.toArray), (w.heap.size, 45, d.cells.toArray)] V1 from hV1 ▸ H0.out.alloc _)
 have EB := qh (show ax V1 (w.heap.size + 4) 30 #[.int .i64 0] by have := ax.new V0 30 #[.int .i64 0]; rw [hV1] at this; rwa [QH.out] at this)
 have HC := qh (Vg w.heap.size (w.heap.size + 1) (w.heap.size + 2) (w.heap.size + 3) Z HS.out.1 d b Al n cl l V1 (H1.out.b (w.heap.size) (45) (d.cells.toArray) (by simp)) (H1.out.b (w.heap.size + 1) (70) (b.cells.toArray) (by simp)) (H1.out.b (w.heap.size + 2) (77) (#[.slice Al n cl]) (by simp)) (H1.out.b (w.heap.size + 3) (45) (Z) (by simp)) (DI.out.on H1.out.below (Nat.le_refl _)) (IB.out.on H1.out.below (Nat.le_refl _)) (aM.below RO.out H1.out.below (aM.sH RO.out) (aM.qL RO.out)) HN.out t1 H3.out.1 H3.out.2.1 v H3.out.2.2)
 have HT := qh (Aj 88 #[.pointer (some ⟨w.heap.size, 0, none⟩), .pointer (some ⟨w.heap.size + 1, 0, none⟩), .pointer (some ⟨w.heap.size + 2, 0, none⟩), .pointer (some ⟨w.heap.size + 3, 0, none⟩)] V0 (fun x => Below w.heap.size w x ∧ ax x (w.heap.size + 4) 30 #[.int .i64 0] ∧ ∃ y : CA, y.V = v ∧ ax x (w.heap.size + 3) 45 y.cells.toArray ∧ nC w.heap.size x y) (JQ _) (hV1 ▸ HC.out.mono fun e x ⟨_, bv, y, hy, he, ov, kv, oo⟩ => ⟨he, ⟨(H1.out.below.trans (bv.mono H1.out.below.size)).trans (ov.below (by simp)), ov.blk (aa bv EB.out EB.out.lt) (by simp), y, hy, kv, oo.mono H1.out.below.size⟩, by rw [QH.out]; exact ov.blk (aa bv EB.out EB.out.lt) (by simp)⟩))
 clear HC H0 H1 EB hV1
 refine HT.out.mono ?_
 rintro e x1 ⟨rfl, v1, ⟨bv, ev, y, hy, kv, oo⟩, o1⟩
 rw [QH.out] at o1
 have BB := qh (bv.trans (o1.below (by simp)))
 have KK := qh (o1.blk kv (by simp))
 have HY := qh hy
 have OO := qh (oo.only o1 ev ⟨by decide, by decide, by decide, by decide, by decide, by decide⟩)
 clear HT bv ev kv o1 hy oo
 go_wp2_with (first
  | ((with_reducible refine az 6 ?_); refine cO.af rfl (.tmp 6) rfl (w.heap.size + 3) 0 rfl y (au.ah KK.out) ?_)
  | ((with_reducible refine ag 6 10 ?_); refine cO.aj rfl (.tmp 6) (.tmp 10) rfl rfl (w.heap.size + 3) y rfl rfl 45 _ KK.out (cO.arr _) ?_; intro wz oz bz))
 refine bodyPost_ret (bn rfl _ _ (w.heap.size + 3) 45 _ (0, 0) _ rfl bz Tryz.underlying45 rfl (by rw [cO.arr]; kernel_rfl)) rfl ?_
 exact ⟨BB.out.trans (oz.below (by simp)), y, HY.out, rfl, OO.out.only oz KK.out mZ⟩
end
section
open Go.RowKit
theorem Su (n : dJ) (y : CA) : (n.cells.take 0 ++ y.cells ++ n.cells.drop (0 + 1063)) = (⟨y, n.z⟩ : dJ).cells := by
 unfold dJ.cells
 rw [List.take_zero, List.nil_append, Nat.zero_add, List.drop_left' n.d.len]
theorem Sr (n : dJ) : (n.cells.take 1063 ++ aA n.z ++ n.cells.drop (1063 + 3)) = n.cells := by
 unfold dJ.cells
 rw [List.take_left' n.d.len, List.drop_of_length_le (by rw [List.length_append, n.d.len, vG]; omega), List.append_nil]
theorem VM (gb gv : Nat) (n : dJ) (b : bF) (Al : Option Addr) (cl : Nat) (l : List rM) (v : CV) (k : Nat) (w : World) (h1 : ax w gb 112 n.cells.toArray) (h2 : ax w gv 77 #[.slice Al l.length cl]) (hd : n.d.In w w.heap.size) (hb : b.In w w.heap.size) (_hl : aK gu 34 w w.heap.size Al cl l) (hR : aM w) (hp : iI k n.d.V) (hB : kJ b.B) (hk : k + 14 ≤ 300) (hm : l.length ≤ 1500) (hv : kH n.d.V b.B l = .ok v) (hc : ∃ T : dX, b.B.bG = [T] ∧ T.av = []) :
 Calls Tryz.prog 51 #[.pointer (some ⟨gb, 0, none⟩), .agg b.cells.toArray, .pointer (some ⟨gv, 0, none⟩)] w fun e w' => e = .returned (.int .i64 0) ∧ ∃ y : CA, y.V = v ∧ ax w' gb 112 (⟨y, n.z⟩ : dJ).cells.toArray ∧ nC w.heap.size w' y ∧ Past gb w w' := by
 obtain ⟨Zc, hZc, hzc, Po, aal⟩ := bB dZ fQ
 have HS := qh Po
 have H0 := qh (show Holds w [(w.heap.size, 70, b.cells.toArray), (gv, 77, #[.slice Al l.length cl]), (gb, 112, n.cells.toArray)] (w.alloc (.cells b.cells.toArray 70)) from (((Holds.nil w).more h1).more h2).box 70 b.cells.toArray)
 have LT := qh (show gb < w.heap.size ∧ gv < w.heap.size from ⟨h1.lt, h2.lt⟩)
 obtain ⟨t1, ht1, hn1⟩ : ∃ t1 : aY, b.bG = [t1] ∧ t1.T.av = [] := by
  obtain ⟨T, hT, h0⟩ := hc
  cases h : b.bG with
  | nil => unfold bF.B at hT; rw [h] at hT; cases hT
  | cons x r =>
   cases r with
   | nil => unfold bF.B at hT; rw [h] at hT; injection hT with h1 _; exact ⟨x, rfl, h1 ▸ h0⟩
   | cons y r => unfold bF.B at hT; rw [h] at hT; injection hT with _ h2; cases h2
 have CN := qh (show ∀ V, Below w.heap.size w V → Calls Tryz.prog 52 #[.agg n.d.cells.toArray, .agg b.cells.toArray, .slice Al l.length cl] V fun e w' => Below V.heap.size V w' ∧ ∃ y : CA, y.V = v ∧ e = .returned (.tuple #[.agg y.cells.toArray, .int .i64 0]) ∧ nC V.heap.size w' y from fun V hb' => by
  have h := Vf n.d b Al l.length cl l V ((hd.below hb').more hb'.size) ((hb.below hb').more hb'.size) (aM.below hR hb' (aM.sH hR) (aM.qL hR)) (hp.aay hB hk hm) t1 ht1 hn1 v hv
  exact h)
 have RF := qh (show ∀ (y : CA) (V : World), y.V = v → nC w.heap.size V y → Calls Tryz.prog 53 #[.agg (aA n.z).toArray, .agg y.cells.toArray, .slice none 0 0] V fun e w' => e = .returned (.agg (aA n.z).toArray) ∧ Below V.heap.size V w' from fun y V hy ho => JJ y n.z V ho.AJ.c (iI.Co (k := k + 14) (hy ▸ iI.next hv hp hB) (by omega)))
 clear hd hb _hl hR hp hB hk hm hv h1 h2 hZc Po
 go_enter Tryz.func51, Tryz.ntmps51
 go_wp2_with fail
 go_cut [6, 7] from 8 to 18 (fun v6 v7 wc => ∃ (g6 : Nat) (y : CA), v6 = .pointer (some ⟨g6, 0, none⟩) ∧ v7 = .int .i64 0 ∧ Hid (y.V = v) ∧ Hid (Holds w [(g6, 45, y.cells.toArray), (w.heap.size, 70, b.cells.toArray), (gv, 77, #[.slice Al l.length cl]), (gb, 112, n.cells.toArray)] wc) ∧ Hid (nC w.heap.size wc y))
 case first =>
  refine wp_region_held_drew (S := Holds w [(w.heap.size, 70, b.cells.toArray), (gv, 77, #[.slice Al l.length cl]), (gb, 112, n.cells.toArray)]) (by kernel_rfl) (H0.out.call (Below.refl _ _).drew) ?_
  intro hS
  have HH := qh hS
  clear H0 RF
  generalize World.drew _ = wd at hS HH ⊢
  have LW := qh (show w.heap.size < wd.heap.size from (HH.out.b (w.heap.size) (70) (b.cells.toArray) (by simp)).lt)
  have DD := qh (Nat.le_refl wd.heap.size)
  refine tkp 0 (.pointer (some ⟨gb, 0, none⟩)) rfl hS ?_
  go_simp
  refine tkp 1 (.pointer (some ⟨gb, 0, none⟩)) rfl hS ?_
  go_simp
  refine tkp 2 (.pointer (some ⟨gb, 0, none⟩)) rfl hS ?_
  go_simp
  refine tk 3 (.agg n.d.cells.toArray) rfl (cO.aB (by rfl) (.tmp 11) rfl gb 0 rfl n.d (fun _ h => dJ.chain (au.ah (h.b (gb) (112) (n.cells.toArray) (by simp))))) hS ?_
  go_simp
  refine tk 4 (.agg b.cells.toArray) rfl (fe.aB (by rfl) (.tmp 4) rfl w.heap.size 0 rfl b (fun _ h => au.ah (h.b (w.heap.size) (70) (b.cells.toArray) (by simp)))) hS ?_
  go_simp
  refine tk 5 (.slice Al l.length cl) rfl (bJ (by rfl) 77 (.tmp 2) rfl ⟨gv, 0, none⟩ rfl _ Tryz.isAgg77 (fun _ h => ax.c0 (h.b (gv) (77) (#[.slice Al l.length cl]) (by simp)))) hS ?_
  go_simp
  refine rd2 6 10 rfl (fun Kq hK => ?_) rfl (fun Kq hK => ?_)
  ·go_simp
   with_reducible refine (CN.out _ HH.out.below).mono ?_
   rintro e x1 ⟨bq, y, hy, rfl, oy⟩
   have YV := qh hy
   have YO := qh (oy.mono HH.out.below.size)
   have HN := qh (HH.out.call bq)
   have DN := qh (Nat.le_trans DD.out bq.size)
   clear hy oy bq
   refine hK.out _ _ (HN.out.os) (fun hS => ?_)
   clear hK Kq HH
   have HH := HN
   clear HN
   clear DD
   have DD := DN
   clear DN
   go_simp
   refine tkp 7 (.tuple #[.agg y.cells.toArray, .int .i64 0]) rfl hS ?_
   go_simp
   refine tkp 8 (.agg y.cells.toArray) rfl hS ?_
   go_simp
   refine tkp 9 (.int .i64 0) rfl hS ?_
   go_simp
   refine rd 10 rfl (fun Kq hK => ?_)
   go_simp
   have HN := qh (show Holds w ((x1.heap.size, 45, Zc) :: [(w.heap.size, 70, b.cells.toArray), (gv, 77, #[.slice Al l.length cl]), (gb, 112, n.cells.toArray)]) (x1.alloc (.cells Zc 45)) from HH.out.box 45 Zc)
   have DN := qh (show wd.heap.size ≤ (x1.alloc (.cells Zc 45)).heap.size by have := DD.out; rw [World.size_alloc]; omega)
   have YN := qh (YO.out.from ((Below.refl _ _).alloc (Nat.le_refl _) (.cells Zc 45)))
   clear YO
   have YO := YN
   clear YN
   refine hK.out _ _ (HN.out.os) (fun hS => ?_)
   clear hK Kq HH
   have HH := HN
   clear HN
   obtain ⟨g6, hg, hd⟩ : ∃ g, x1.heap.size = g ∧ wd.heap.size ≤ g := ⟨_, rfl, DD.out⟩
   obtain ⟨x2, hV⟩ : ∃ V, x1.alloc (.cells Zc 45) = V := ⟨_, rfl⟩
   rw [hV] at HH DN hS YO ⊢
   clear hV DD
   have DD := DN
   clear DN
   rw [hg] at HH ⊢
   clear hg
   have D6 := qh hd
   clear hd
   go_simp
   refine rd 11 rfl (fun Kq hK => ?_)
   refine cO.aH rfl (.tmp 6) (.tmp 16) rfl rfl g6 y rfl rfl 45 _ (HH.out.b g6 (45) Zc (by simp)) (by rw [HS.out]) ?_
   intro w9 o9 b9
   have H9 := qh (show Holds w [(g6, 45, y.cells.toArray), (w.heap.size, 70, b.cells.toArray), (gv, 77, #[.slice Al l.length cl]), (gb, 112, n.cells.toArray)] w9 from (HH.out.os (L' := (g6, 45, Zc) :: [(w.heap.size, 70, b.cells.toArray), (gv, 77, #[.slice Al l.length cl]), (gb, 112, n.cells.toArray)])).turn o9 b9 (by have := D6.out; have := LW.out; omega) (fun x hx => by
    have := D6.out
    have := LW.out
    have := LT.out
    simp only [List.mem_cons, List.not_mem_nil, or_false] at hx
    rcases hx with rfl | rfl | rfl <;> simp only <;> omega))
   have Y9 := qh (YO.out.only o9 (HH.out.b g6 (45) Zc (by simp)) mZ)
   refine hK.out _ _ (H9.out.of (fun x hx => List.mem_cons_of_mem _ hx)) (fun hS => ?_)
   clear hK Kq
   go_simp
   refine tkp 12 (.int .i64 0) rfl hS ?_
   go_simp
   refine wpAnyH_done (by kernel_rfl) ?_ _
   go_wp2_with fail
   go_meet
   exact ⟨g6, y, rfl, rfl, YV, H9, Y9⟩
  ·go_simp
   have HN := qh (show Holds w ((wd.heap.size, 45, Zc) :: [(w.heap.size, 70, b.cells.toArray), (gv, 77, #[.slice Al l.length cl]), (gb, 112, n.cells.toArray)]) (wd.alloc (.cells Zc 45)) from HH.out.box 45 Zc)
   have DN := qh (show wd.heap.size ≤ (wd.alloc (.cells Zc 45)).heap.size by have := DD.out; rw [World.size_alloc]; omega)
   refine hK.out _ _ (HN.out.os) (fun hS => ?_)
   clear hK Kq HH
   have HH := HN
   clear HN
   obtain ⟨g6, hg, hd⟩ : ∃ g, wd.heap.size = g ∧ wd.heap.size ≤ g := ⟨_, rfl, DD.out⟩
   obtain ⟨x1, hV⟩ : ∃ V, wd.alloc (.cells Zc 45) = V := ⟨_, rfl⟩
   rw [hV] at HH DN hS ⊢
   clear hV DD
   have DD := DN
   clear DN
   rw [hg] at HH ⊢
   clear hg
   have D6 := qh hd
   clear hd
   go_simp
   refine rd 6 rfl (fun Kq hK => ?_)
   go_simp
   with_reducible refine (CN.out _ HH.out.below).mono ?_
   rintro e x2 ⟨bq, y, hy, rfl, oy⟩
   have YV := qh hy
   have YO := qh (oy.mono HH.out.below.size)
   have HN := qh (HH.out.call bq)
   have DN := qh (Nat.le_trans DD.out bq.size)
   clear hy oy bq
   refine hK.out _ _ (HN.out.os) (fun hS => ?_)
   clear hK Kq HH
   have HH := HN
   clear HN
   clear DD
   have DD := DN
   clear DN
   go_simp
   refine tkp 7 (.tuple #[.agg y.cells.toArray, .int .i64 0]) rfl hS ?_
   go_simp
   refine tkp 8 (.agg y.cells.toArray) rfl hS ?_
   go_simp
   refine tkp 9 (.int .i64 0) rfl hS ?_
   go_simp
   refine rd 11 rfl (fun Kq hK => ?_)
   refine cO.aH rfl (.tmp 6) (.tmp 16) rfl rfl g6 y rfl rfl 45 _ (HH.out.b g6 (45) Zc (by simp)) (by rw [HS.out]) ?_
   intro w9 o9 b9
   have H9 := qh (show Holds w [(g6, 45, y.cells.toArray), (w.heap.size, 70, b.cells.toArray), (gv, 77, #[.slice Al l.length cl]), (gb, 112, n.cells.toArray)] w9 from (HH.out.os (L' := (g6, 45, Zc) :: [(w.heap.size, 70, b.cells.toArray), (gv, 77, #[.slice Al l.length cl]), (gb, 112, n.cells.toArray)])).turn o9 b9 (by have := D6.out; have := LW.out; omega) (fun x hx => by
    have := D6.out
    have := LW.out
    have := LT.out
    simp only [List.mem_cons, List.not_mem_nil, or_false] at hx
    rcases hx with rfl | rfl | rfl <;> simp only <;> omega))
   have Y9 := qh (YO.out.only o9 (HH.out.b g6 (45) Zc (by simp)) mZ)
   refine hK.out _ _ (H9.out.of (fun x hx => List.mem_cons_of_mem _ hx)) (fun hS => ?_)
   clear hK Kq
   go_simp
   refine tkp 12 (.int .i64 0) rfl hS ?_
   go_simp
   refine wpAnyH_done (by kernel_rfl) ?_ _
   go_wp2_with fail
   go_meet
   exact ⟨g6, y, rfl, rfl, YV, H9, Y9⟩
 case rest =>
  obtain ⟨g6, y, rfl, rfl, YV, H1, Y1⟩ := hcut
  clear H0 CN
  go_wp2_with fail
  have RY := qh (fun V (h : nC w.heap.size V y) => RF.out y V YV.out h)
  clear RF
  refine wp_region_held_drew (S := fun V => ax V g6 45 y.cells.toArray ∧ (∃ m : dJ, m.z = n.z ∧ ax V gb 112 m.cells.toArray)) (by kernel_rfl) ⟨(H1.out.call (Below.refl _ _).drew).b (g6) (45) (y.cells.toArray) (by simp), n, rfl, (H1.out.call (Below.refl _ _).drew).b (gb) (112) (n.cells.toArray) (by simp)⟩ ?_
  intro hS
  have HH := qh (H1.out.call (Below.refl _ _).drew)
  have YO := qh (Y1.out.from (Below.refl _ _).drew)
  clear H1 Y1
  generalize World.drew _ = wd at hS HH YO ⊢
  refine tkp 0 (.pointer (some ⟨gb, 0, none⟩)) rfl hS ?_
  go_simp
  refine tkp 1 (.pointer (some ⟨gb, 0, none⟩)) rfl hS ?_
  go_simp
  refine tk 2 (.agg y.cells.toArray) rfl (cO.aB (by rfl) (.tmp 6) rfl g6 0 rfl y (fun _ h => au.ah h.1)) hS ?_
  go_simp
  refine tkp 3 (.pointer (some ⟨gb, 0, none⟩)) rfl hS ?_
  go_simp
  refine tkp 4 (.pointer (some ⟨gb, 0, none⟩)) rfl hS ?_
  go_simp
  refine tkp 5 (.pointer (some ⟨gb, 1063, none⟩)) rfl hS ?_
  go_simp
  refine tk 6 (.agg (aA n.z).toArray) rfl (j5.aB (by rfl) (.tmp 26) rfl gb 1063 rfl n.z (fun _ ⟨_, m, hm, hb⟩ => hm ▸ dJ.pool (au.ah hb))) hS ?_
  go_simp
  refine tk 7 (.agg y.cells.toArray) rfl (cO.aB (by rfl) (.tmp 6) rfl g6 0 rfl y (fun _ h => au.ah h.1)) hS ?_
  go_simp
  refine rd 8 rfl (fun Kq hK => ?_)
  go_simp
  with_reducible refine (RY.out _ YO.out).mono ?_
  rintro e x1 ⟨rfl, bq⟩
  have HN := qh (HH.out.call bq)
  have YN := qh (YO.out.from bq)
  refine hK.out _ _ ⟨HN.out.b (g6) (45) (y.cells.toArray) (by simp), n, rfl, HN.out.b (gb) (112) (n.cells.toArray) (by simp)⟩ (fun hS => ?_)
  clear hK Kq bq HH YO RY
  have HH := HN
  have YO := YN
  clear HN YN
  go_simp
  refine tkp 9 (.pointer (some ⟨gb, 0, none⟩)) rfl hS ?_
  go_simp
  refine tkp 10 (.pointer (some ⟨gb, 0, none⟩)) rfl hS ?_
  go_simp
  refine rd 11 rfl (fun Kq hK => ?_)
  refine cO.fu rfl (.tmp 31) (.tmp 23) rfl rfl gb 0 y rfl rfl 112 _ (HH.out.b (gb) (112) (n.cells.toArray) (by simp)) (by rw [n.len]; omega) ?_
  intro w3 o3 b3
  rw [Su] at b3
  have GN := qh (show g6 ≠ gb from fun q => by
   have k1 := (HH.out.b (g6) (45) (y.cells.toArray) (by simp))
   have k2 := (HH.out.b (gb) (112) (n.cells.toArray) (by simp))
   rw [q] at k1
   unfold ax at k1 k2
   rw [k1] at k2
   have k3 := Option.some.inj k2
   injection k3 with _ e2 _
   exact absurd e2 (by decide))
  have K3 := qh (o3.blk (HH.out.b (g6) (45) (y.cells.toArray) (by simp)) (by simpa using GN.out))
  have Y3 := qh (YO.out.only o3 (HH.out.b (gb) (112) (n.cells.toArray) (by simp)) sF)
  have P3 := qh ((Past.of_below HH.out.below).trans (Past.kM o3) : Past gb w w3)
  have B3 := qh b3
  refine hK.out _ _ ⟨K3.out, (⟨y, n.z⟩ : dJ), rfl, B3.out⟩ (fun hS => ?_)
  clear hK Kq o3 b3 HH YO GN
  go_simp
  refine tkp 12 (.pointer (some ⟨gb, 0, none⟩)) rfl hS ?_
  go_simp
  refine tkp 13 (.pointer (some ⟨gb, 1063, none⟩)) rfl hS ?_
  go_simp
  refine rd 14 rfl (fun Kq hK => ?_)
  refine j5.fu rfl (.tmp 33) (.tmp 29) rfl rfl gb 1063 n.z rfl rfl 112 _ B3.out (by rw [dJ.len]; omega) ?_
  intro w4 o4 b4
  have b5 : ax w4 gb 112 (⟨y, n.z⟩ : dJ).cells.toArray := by
   have e := Sr (⟨y, n.z⟩ : dJ)
   rw [e] at b4
   exact b4
  have Y4 := qh (Y3.out.only o4 B3.out sF)
  have P4 := qh (P3.out.trans (Past.kM o4))
  have B4 := qh b5
  have GN := qh (show g6 ≠ gb from fun q => by
   have k1 := K3.out
   have k2 := B3.out
   rw [q] at k1
   unfold ax at k1 k2
   rw [k1] at k2
   have k3 := Option.some.inj k2
   injection k3 with _ e2 _
   exact absurd e2 (by decide))
  refine hK.out _ _ ⟨o4.blk K3.out (by simpa using GN.out), (⟨y, n.z⟩ : dJ), rfl, B4.out⟩ (fun hS => ?_)
  clear hK Kq o4 b4 b5 hS
  refine wpAnyH_done (by kernel_rfl) ?_ _
  go_wp2_with fail
  go_ret
  exact ⟨rfl, y, YV.out, B4.out, Y4.out, P4.out⟩
end
section
open Go.RowKit
structure dL (L : List Nat) (w w' : World) : Prop where
 os : w'.os = w.os
 tape : w'.tape = w.tape
 output : w'.output = w.output
 size : w.heap.size ≤ w'.heap.size
 block : ∀ i, i < w.heap.size → i ∉ L → w'.heap[i]? = w.heap[i]?
section
variable {L L' : List Nat} {w w1 w2 : World} {g B : Nat} {t : TypeId} {cs : Array Value}
theorem dL.of_below (h : Below w.heap.size w w1) : dL L w w1 := ⟨h.os, h.tape, h.output, h.size, fun i hi _ => h.block i hi⟩
theorem dL.only (h : dL L w w1) (o : Only [g] w1 w2) (hg : g ∈ L ∨ w.heap.size ≤ g) : dL L w w2 :=
 ⟨o.os.trans h.os, o.tape.trans h.tape, o.output.trans h.output, Nat.le_trans h.size (Nat.le_of_eq o.size.symm), fun i hi hi' => (o.block i (by
  intro q
  obtain rfl : i = g := by simpa using q
  rcases hg with h1 | h1
  ·exact hi' h1
  ·omega)).trans (h.block i hi hi')⟩
theorem dL.blk (h : dL L w w1) (hb : ax w g t cs) (hg : g ∉ L) : ax w1 g t cs := (h.block g hb.lt hg).trans hb
theorem dL.below (h : dL L w w1) (hL : ∀ i ∈ L, B ≤ i) (hw : B ≤ w.heap.size) : Below B w w1 := ⟨h.os, h.tape, h.output, h.size, fun i hi => h.block i (by omega) (fun q => by have := hL i q; omega)⟩
end
end
section
open Go.RowKit
abbrev Sb (w : World) (g : Nat) (l : List UInt8) : Prop := ax w g 9 #[.string ⟨l.toArray⟩]
abbrev Nb (w : World) (g : Nat) (n : Nat) : Prop := ax w g 48 #[.int .u64 n]
abbrev Bb (w : World) (g : Nat) (b : bF) : Prop := ax w g 70 b.cells.toArray
theorem Qg (l : List UInt8) (hs : l.length ≤ 1000000) (w : World) :
 Calls Tryz.prog 75 #[.string ⟨l.toArray⟩] w (QM Zd (Zd ai) w (gD l)) := by
 refine (Fg ⟨l.toArray⟩ (by rw [gG]; exact hs) w).mono ?_
 rintro e w' ⟨rfl, hb⟩
 refine ⟨hb, ?_⟩
 rcases Pd l with ⟨hf, hg⟩ | ⟨k, r, hf, hg⟩
 ·rw [hg]
  show Ending.returned (zL (vL l)) = _
  rw [hf]
  unfold zL Zd
  rw [dQ]
  rfl
 ·rw [hg]
  show Ending.returned (zL (vL l)) = _
  rw [hf]
  unfold zL Zd
  rw [dQ]
theorem VS (l : List UInt8) (hs : l.length ≤ 1000000) (wd : Nat) (h1 : 1 ≤ wd) (h8 : wd ≤ 8) (w : World) :
 Calls Tryz.prog 127 #[.string ⟨l.toArray⟩, .int .i64 wd] w (QM Df (Df 0) w (jC wd l)) := by
 refine (I4 ⟨l.toArray⟩ (by rw [gG]; exact hs) wd w).mono ?_
 rintro e w' ⟨rfl, hb⟩
 refine ⟨hb, ?_⟩
 rcases Pz wd h1 h8 l with ⟨_, hf, hg⟩ | ⟨_, hf, hg⟩
 ·rw [hg]
  show Ending.returned (kC (eZ l wd)) = _
  rw [hf]
  rfl
 ·rw [hg]
  show Ending.returned (kC (eZ l wd)) = _
  rw [hf]
  rfl
theorem TC (l : List UInt8) (hs : l.length ≤ 1000000) (w : World) :
 Calls Tryz.prog 81 #[.string ⟨l.toArray⟩] w (QM Df (Df 0) w (um l)) := by
 refine (DY ⟨l.toArray⟩ (by rw [gG]; exact hs) w).mono ?_
 rintro e w' ⟨rfl, hb⟩
 refine ⟨hb, ?_⟩
 rcases xm l with ⟨er, _, hf, hg⟩ | ⟨n, r, hf, hg, _⟩
 ·rw [hg]
  show Ending.returned (kC (fH l)) = _
  rw [hf]
  rfl
 ·rw [hg]
  show Ending.returned (kC (fH l)) = _
  rw [hf]
  rfl
theorem Ms (r : List UInt8) (hs : r.length ≤ 1000000) (bk : bF) (g gb : Nat) (hne : g ≠ gb) (w : World) (hr : Sb w g r) (hb : Bb w gb bk) :
 Calls Tryz.prog 74 #[.pointer (some ⟨gb, 0, none⟩), .pointer (some ⟨g, 0, none⟩), .func (.func 75) #[] #[]] w fun e w' => dL [g, gb] w w' ∧ match gD r with
  | .ok (k, r') => e = .returned (.int .i64 0) ∧ Sb w' g r' ∧ Bb w' gb { bk with prev := k }
  | .error er => e = .returned (.int .i64 er) := by
 have hc := Qg r hs w
 have cs := hr.cell 0
 have HN := qh hne
 have HR := qh hr
 have HB := qh hb
 clear hr hb hne
 cases hq : gD r with
 | error er =>
  have HC := qh (hq ▸ hc)
  clear hc hq
  go_enter Tryz.func74, Tryz.ntmps74
  go_wp2_with fail
  refine HC.out.mono ?_
  rintro e w1 ⟨b1, rfl⟩
  have KS := qh (aa b1 HR.out HR.out.lt)
  have KB := qh (aa b1 HB.out HB.out.lt)
  have PP := qh (dL.of_below (L := [g, gb]) b1)
  clear b1 HC cs HR HB
  go_wp2_with (first
   | ((with_reducible refine ag 18 15 ?_); refine bL.dO rfl (.tmp 18) (.tmp 15) rfl rfl gb 0 ai rfl rfl 70 _ KB.out (by rw [bF.len]; omega) ?_; intro v1 ox bx; rw [bF.DJ] at bx
      have K1 := qh bx
      have S1 := qh (ox.blk KS.out (by simpa using HN.out))
      have P1 := qh (PP.out.only ox (.inl (by simp)))
      clear ox bx)
   | ((with_reducible refine ag 19 16 ?_); refine aF rfl 9 (.tmp 19) (.tmp 16) rfl rfl g (.string ⟨([] : List UInt8).toArray⟩) rfl rfl rfl 9 _ S1.out (by kernel_rfl) ?_; intro v2 oy bY
      have S2 := qh bY
      have K2 := qh (oy.blk K1.out (by simpa using fun e => HN.out e.symm))
      have P2 := qh (P1.out.only oy (.inl (by simp)))
      clear oy bY))
  go_ret
  exact ⟨P2.out, rfl⟩
 | ok x =>
  obtain ⟨k, r'⟩ := x
  have HC := qh (hq ▸ hc)
  clear hc hq
  go_enter Tryz.func74, Tryz.ntmps74
  go_wp2_with fail
  refine HC.out.mono ?_
  rintro e w1 ⟨b1, rfl⟩
  have KS := qh (aa b1 HR.out HR.out.lt)
  have KB := qh (aa b1 HB.out HB.out.lt)
  have PP := qh (dL.of_below (L := [g, gb]) b1)
  clear b1 HC cs HR HB
  go_wp2_with (first
   | ((with_reducible refine ag 18 15 ?_); refine bL.dO rfl (.tmp 18) (.tmp 15) rfl rfl gb 0 k rfl rfl 70 _ KB.out (by rw [bF.len]; omega) ?_; intro v1 ox bx; rw [bF.DJ] at bx
      have K1 := qh bx
      have S1 := qh (ox.blk KS.out (by simpa using HN.out))
      have P1 := qh (PP.out.only ox (.inl (by simp)))
      clear ox bx)
   | ((with_reducible refine ag 19 16 ?_); refine aF rfl 9 (.tmp 19) (.tmp 16) rfl rfl g (.string ⟨r'.toArray⟩) rfl rfl rfl 9 _ S1.out (by kernel_rfl) ?_; intro v2 oy bY
      have S2 := qh bY
      have K2 := qh (oy.blk K1.out (by simpa using fun e => HN.out e.symm))
      have P2 := qh (P1.out.only oy (.inl (by simp)))
      clear oy bY))
  go_ret
  exact ⟨P2.out, rfl, S2.out, K2.out⟩
theorem Rs (r : List UInt8) (hs : r.length ≤ 1000000) (bk : bF) (g gb : Nat) (hne : g ≠ gb) (w : World) (hr : Sb w g r) (hb : Bb w gb bk) :
 Calls Tryz.prog 73 #[.pointer (some ⟨gb, 0, none⟩), .pointer (some ⟨g, 0, none⟩)] w fun e w' => dL [g, gb] w w' ∧ match gD r with
  | .ok (k, r') => e = .returned (.int .i64 0) ∧ Sb w' g r' ∧ Bb w' gb { bk with prev := k }
  | .error er => e = .returned (.int .i64 er) := by
 have hc := Ms r hs bk g gb hne w hr hb
 have HC := qh hc
 clear hc hr hb
 cases hq : gD r with
 | error er =>
  rw [hq] at HC
  go_enter Tryz.func73, Tryz.ntmps73
  go_wp2_with fail
  refine HC.out.mono ?_
  rintro e w1 ⟨p1, h1⟩
  obtain rfl : e = .returned (.int .i64 er) := h1
  go_wp2_with fail
  go_ret
  exact ⟨p1, rfl⟩
 | ok x =>
  obtain ⟨k, r'⟩ := x
  rw [hq] at HC
  go_enter Tryz.func73, Tryz.ntmps73
  go_wp2_with fail
  refine HC.out.mono ?_
  rintro e w1 ⟨p1, h1⟩
  obtain ⟨rfl, s1, b1⟩ := (h1 : _ ∧ _ ∧ _)
  have S1 := qh s1
  have B1 := qh b1
  clear s1 b1
  go_wp2_with fail
  go_ret
  exact ⟨p1, rfl, S1.out, B1.out⟩
theorem Mr (r : List UInt8) (hs : r.length ≤ 1000000) (bk : bF) (g gb : Nat) (hne : g ≠ gb) (w : World) (hr : Sb w g r) (hb : Bb w gb bk) :
 Calls Tryz.prog 74 #[.pointer (some ⟨gb, 32, none⟩), .pointer (some ⟨g, 0, none⟩), .func (.func 75) #[] #[]] w fun e w' => dL [g, gb] w w' ∧ match gD r with
  | .ok (k, r') => e = .returned (.int .i64 0) ∧ Sb w' g r' ∧ Bb w' gb { bk with root := k }
  | .error er => e = .returned (.int .i64 er) := by
 have hc := Qg r hs w
 have cs := hr.cell 0
 have HN := qh hne
 have HR := qh hr
 have HB := qh hb
 clear hr hb hne
 cases hq : gD r with
 | error er =>
  have HC := qh (hq ▸ hc)
  clear hc hq
  go_enter Tryz.func74, Tryz.ntmps74
  go_wp2_with fail
  refine HC.out.mono ?_
  rintro e w1 ⟨b1, rfl⟩
  have KS := qh (aa b1 HR.out HR.out.lt)
  have KB := qh (aa b1 HB.out HB.out.lt)
  have PP := qh (dL.of_below (L := [g, gb]) b1)
  clear b1 HC cs HR HB
  go_wp2_with (first
   | ((with_reducible refine ag 18 15 ?_); refine bL.dO rfl (.tmp 18) (.tmp 15) rfl rfl gb 32 ai rfl rfl 70 _ KB.out (by rw [bF.len]; omega) ?_; intro v1 ox bx; rw [bF.xS] at bx
      have K1 := qh bx
      have S1 := qh (ox.blk KS.out (by simpa using HN.out))
      have P1 := qh (PP.out.only ox (.inl (by simp)))
      clear ox bx)
   | ((with_reducible refine ag 19 16 ?_); refine aF rfl 9 (.tmp 19) (.tmp 16) rfl rfl g (.string ⟨([] : List UInt8).toArray⟩) rfl rfl rfl 9 _ S1.out (by kernel_rfl) ?_; intro v2 oy bY
      have S2 := qh bY
      have K2 := qh (oy.blk K1.out (by simpa using fun e => HN.out e.symm))
      have P2 := qh (P1.out.only oy (.inl (by simp)))
      clear oy bY))
  go_ret
  exact ⟨P2.out, rfl⟩
 | ok x =>
  obtain ⟨k, r'⟩ := x
  have HC := qh (hq ▸ hc)
  clear hc hq
  go_enter Tryz.func74, Tryz.ntmps74
  go_wp2_with fail
  refine HC.out.mono ?_
  rintro e w1 ⟨b1, rfl⟩
  have KS := qh (aa b1 HR.out HR.out.lt)
  have KB := qh (aa b1 HB.out HB.out.lt)
  have PP := qh (dL.of_below (L := [g, gb]) b1)
  clear b1 HC cs HR HB
  go_wp2_with (first
   | ((with_reducible refine ag 18 15 ?_); refine bL.dO rfl (.tmp 18) (.tmp 15) rfl rfl gb 32 k rfl rfl 70 _ KB.out (by rw [bF.len]; omega) ?_; intro v1 ox bx; rw [bF.xS] at bx
      have K1 := qh bx
      have S1 := qh (ox.blk KS.out (by simpa using HN.out))
      have P1 := qh (PP.out.only ox (.inl (by simp)))
      clear ox bx)
   | ((with_reducible refine ag 19 16 ?_); refine aF rfl 9 (.tmp 19) (.tmp 16) rfl rfl g (.string ⟨r'.toArray⟩) rfl rfl rfl 9 _ S1.out (by kernel_rfl) ?_; intro v2 oy bY
      have S2 := qh bY
      have K2 := qh (oy.blk K1.out (by simpa using fun e => HN.out e.symm))
      have P2 := qh (P1.out.only oy (.inl (by simp)))
      clear oy bY))
  go_ret
  exact ⟨P2.out, rfl, S2.out, K2.out⟩
theorem Rq (r : List UInt8) (hs : r.length ≤ 1000000) (bk : bF) (g gb : Nat) (hne : g ≠ gb) (w : World) (hr : Sb w g r) (hb : Bb w gb bk) :
 Calls Tryz.prog 76 #[.pointer (some ⟨gb, 0, none⟩), .pointer (some ⟨g, 0, none⟩)] w fun e w' => dL [g, gb] w w' ∧ match gD r with
  | .ok (k, r') => e = .returned (.int .i64 0) ∧ Sb w' g r' ∧ Bb w' gb { bk with root := k }
  | .error er => e = .returned (.int .i64 er) := by
 have hc := Mr r hs bk g gb hne w hr hb
 have HC := qh hc
 clear hc hr hb
 cases hq : gD r with
 | error er =>
  rw [hq] at HC
  go_enter Tryz.func76, Tryz.ntmps76
  go_wp2_with fail
  refine HC.out.mono ?_
  rintro e w1 ⟨p1, h1⟩
  obtain rfl : e = .returned (.int .i64 er) := h1
  go_wp2_with fail
  go_ret
  exact ⟨p1, rfl⟩
 | ok x =>
  obtain ⟨k, r'⟩ := x
  rw [hq] at HC
  go_enter Tryz.func76, Tryz.ntmps76
  go_wp2_with fail
  refine HC.out.mono ?_
  rintro e w1 ⟨p1, h1⟩
  obtain ⟨rfl, s1, b1⟩ := (h1 : _ ∧ _ ∧ _)
  have S1 := qh s1
  have B1 := qh b1
  clear s1 b1
  go_wp2_with fail
  go_ret
  exact ⟨p1, rfl, S1.out, B1.out⟩
theorem GZ (l : List UInt8) (hs : l.length ≤ 1000000) (w : World) :
 Calls Tryz.prog 79 #[.string ⟨l.toArray⟩] w (QM Df (Df 0) w (jC 4 l)) := by
 have HC := qh (show Calls Tryz.prog 127 #[.string ⟨l.toArray⟩, .int .i64 4] w (QM Df (Df 0) w (jC 4 l)) from VS l hs 4 (by omega) (by omega) w)
 cases hq : jC 4 l with
 | error er =>
  rw [hq] at HC
  go_enter Tryz.func79, Tryz.ntmps79
  go_wp2_with fail
  refine HC.out.mono ?_
  rintro e w1 ⟨b1, rfl⟩
  go_wp2_with fail
  go_ret3
  exact ⟨b1, rfl⟩
 | ok x =>
  obtain ⟨n, r⟩ := x
  rw [hq] at HC
  go_enter Tryz.func79, Tryz.ntmps79
  go_wp2_with fail
  refine HC.out.mono ?_
  rintro e w1 ⟨b1, rfl⟩
  go_wp2_with fail
  go_ret3
  exact ⟨b1, rfl⟩
theorem Mq (r : List UInt8) (hs : r.length ≤ 1000000) (n0 : Nat) (g gn : Nat) (hne : g ≠ gn) (w : World) (hr : Sb w g r) (hb : Nb w gn n0) :
 Calls Tryz.prog 78 #[.pointer (some ⟨gn, 0, none⟩), .pointer (some ⟨g, 0, none⟩), .func (.func 79) #[] #[]] w fun e w' => dL [g, gn] w w' ∧ match jC 4 r with
  | .ok (n, r') => e = .returned (.int .i64 0) ∧ Sb w' g r' ∧ Nb w' gn n
  | .error er => e = .returned (.int .i64 er) := by
 have hc := GZ r hs w
 have cs := hr.cell 0
 have HN := qh hne
 have HR := qh hr
 have HB := qh hb
 clear hr hb hne
 cases hq : jC 4 r with
 | error er =>
  have HC := qh (hq ▸ hc)
  clear hc hq
  go_enter Tryz.func78, Tryz.ntmps78
  go_wp2_with fail
  refine HC.out.mono ?_
  rintro e w1 ⟨b1, rfl⟩
  have KS := qh (aa b1 HR.out HR.out.lt)
  have KB := qh (aa b1 HB.out HB.out.lt)
  have PP := qh (dL.of_below (L := [g, gn]) b1)
  clear b1 HC cs HR HB
  go_wp2_with (first
   | ((with_reducible refine ag 18 15 ?_); refine aF rfl 48 (.tmp 18) (.tmp 15) rfl rfl gn (.int .u64 (0 : Nat)) rfl rfl rfl 48 _ KB.out (by kernel_rfl) ?_; intro v1 ox bx
      have K1 := qh bx
      have S1 := qh (ox.blk KS.out (by simpa using HN.out))
      have P1 := qh (PP.out.only ox (.inl (by simp)))
      clear ox bx)
   | ((with_reducible refine ag 19 16 ?_); refine aF rfl 9 (.tmp 19) (.tmp 16) rfl rfl g (.string ⟨([] : List UInt8).toArray⟩) rfl rfl rfl 9 _ S1.out (by kernel_rfl) ?_; intro v2 oy bY
      have S2 := qh bY
      have K2 := qh (oy.blk K1.out (by simpa using fun e => HN.out e.symm))
      have P2 := qh (P1.out.only oy (.inl (by simp)))
      clear oy bY))
  go_ret
  exact ⟨P2.out, rfl⟩
 | ok x =>
  obtain ⟨n, r'⟩ := x
  have HC := qh (hq ▸ hc)
  clear hc hq
  go_enter Tryz.func78, Tryz.ntmps78
  go_wp2_with fail
  refine HC.out.mono ?_
  rintro e w1 ⟨b1, rfl⟩
  have KS := qh (aa b1 HR.out HR.out.lt)
  have KB := qh (aa b1 HB.out HB.out.lt)
  have PP := qh (dL.of_below (L := [g, gn]) b1)
  clear b1 HC cs HR HB
  go_wp2_with (first
   | ((with_reducible refine ag 18 15 ?_); refine aF rfl 48 (.tmp 18) (.tmp 15) rfl rfl gn (.int .u64 (n : Nat)) rfl rfl rfl 48 _ KB.out (by kernel_rfl) ?_; intro v1 ox bx
      have K1 := qh bx
      have S1 := qh (ox.blk KS.out (by simpa using HN.out))
      have P1 := qh (PP.out.only ox (.inl (by simp)))
      clear ox bx)
   | ((with_reducible refine ag 19 16 ?_); refine aF rfl 9 (.tmp 19) (.tmp 16) rfl rfl g (.string ⟨r'.toArray⟩) rfl rfl rfl 9 _ S1.out (by kernel_rfl) ?_; intro v2 oy bY
      have S2 := qh bY
      have K2 := qh (oy.blk K1.out (by simpa using fun e => HN.out e.symm))
      have P2 := qh (P1.out.only oy (.inl (by simp)))
      clear oy bY))
  go_ret
  exact ⟨P2.out, rfl, S2.out, K2.out⟩
theorem Rp (r : List UInt8) (hs : r.length ≤ 1000000) (n0 : Nat) (g gn : Nat) (hne : g ≠ gn) (w : World) (hr : Sb w g r) (hb : Nb w gn n0) :
 Calls Tryz.prog 77 #[.pointer (some ⟨gn, 0, none⟩), .pointer (some ⟨g, 0, none⟩)] w fun e w' => dL [g, gn] w w' ∧ match jC 4 r with
  | .ok (n, r') => e = .returned (.int .i64 0) ∧ Sb w' g r' ∧ Nb w' gn n
  | .error er => e = .returned (.int .i64 er) := by
 have hc := Mq r hs n0 g gn hne w hr hb
 have HC := qh hc
 clear hc hr hb
 cases hq : jC 4 r with
 | error er =>
  rw [hq] at HC
  go_enter Tryz.func77, Tryz.ntmps77
  go_wp2_with fail
  refine HC.out.mono ?_
  rintro e w1 ⟨p1, h1⟩
  obtain rfl : e = .returned (.int .i64 er) := h1
  go_wp2_with fail
  go_ret
  exact ⟨p1, rfl⟩
 | ok x =>
  obtain ⟨k, r'⟩ := x
  rw [hq] at HC
  go_enter Tryz.func77, Tryz.ntmps77
  go_wp2_with fail
  refine HC.out.mono ?_
  rintro e w1 ⟨p1, h1⟩
  obtain ⟨rfl, s1, b1⟩ := (h1 : _ ∧ _ ∧ _)
  have S1 := qh s1
  have B1 := qh b1
  clear s1 b1
  go_wp2_with fail
  go_ret
  exact ⟨p1, rfl, S1.out, B1.out⟩
theorem Mo (r : List UInt8) (hs : r.length ≤ 1000000) (n0 : Nat) (g gn : Nat) (hne : g ≠ gn) (w : World) (hr : Sb w g r) (hb : Nb w gn n0) :
 Calls Tryz.prog 78 #[.pointer (some ⟨gn, 0, none⟩), .pointer (some ⟨g, 0, none⟩), .func (.func 81) #[] #[]] w fun e w' => dL [g, gn] w w' ∧ match um r with
  | .ok (n, r') => e = .returned (.int .i64 0) ∧ Sb w' g r' ∧ Nb w' gn n
  | .error er => e = .returned (.int .i64 er) := by
 have hc := TC r hs w
 have cs := hr.cell 0
 have HN := qh hne
 have HR := qh hr
 have HB := qh hb
 clear hr hb hne
 cases hq : um r with
 | error er =>
  have HC := qh (hq ▸ hc)
  clear hc hq
  go_enter Tryz.func78, Tryz.ntmps78
  go_wp2_with fail
  refine HC.out.mono ?_
  rintro e w1 ⟨b1, rfl⟩
  have KS := qh (aa b1 HR.out HR.out.lt)
  have KB := qh (aa b1 HB.out HB.out.lt)
  have PP := qh (dL.of_below (L := [g, gn]) b1)
  clear b1 HC cs HR HB
  go_wp2_with (first
   | ((with_reducible refine ag 18 15 ?_); refine aF rfl 48 (.tmp 18) (.tmp 15) rfl rfl gn (.int .u64 (0 : Nat)) rfl rfl rfl 48 _ KB.out (by kernel_rfl) ?_; intro v1 ox bx
      have K1 := qh bx
      have S1 := qh (ox.blk KS.out (by simpa using HN.out))
      have P1 := qh (PP.out.only ox (.inl (by simp)))
      clear ox bx)
   | ((with_reducible refine ag 19 16 ?_); refine aF rfl 9 (.tmp 19) (.tmp 16) rfl rfl g (.string ⟨([] : List UInt8).toArray⟩) rfl rfl rfl 9 _ S1.out (by kernel_rfl) ?_; intro v2 oy bY
      have S2 := qh bY
      have K2 := qh (oy.blk K1.out (by simpa using fun e => HN.out e.symm))
      have P2 := qh (P1.out.only oy (.inl (by simp)))
      clear oy bY))
  go_ret
  exact ⟨P2.out, rfl⟩
 | ok x =>
  obtain ⟨n, r'⟩ := x
  have HC := qh (hq ▸ hc)
  clear hc hq
  go_enter Tryz.func78, Tryz.ntmps78
  go_wp2_with fail
  refine HC.out.mono ?_
  rintro e w1 ⟨b1, rfl⟩
  have KS := qh (aa b1 HR.out HR.out.lt)
  have KB := qh (aa b1 HB.out HB.out.lt)
  have PP := qh (dL.of_below (L := [g, gn]) b1)
  clear b1 HC cs HR HB
  go_wp2_with (first
   | ((with_reducible refine ag 18 15 ?_); refine aF rfl 48 (.tmp 18) (.tmp 15) rfl rfl gn (.int .u64 (n : Nat)) rfl rfl rfl 48 _ KB.out (by kernel_rfl) ?_; intro v1 ox bx
      have K1 := qh bx
      have S1 := qh (ox.blk KS.out (by simpa using HN.out))
      have P1 := qh (PP.out.only ox (.inl (by simp)))
      clear ox bx)
   | ((with_reducible refine ag 19 16 ?_); refine aF rfl 9 (.tmp 19) (.tmp 16) rfl rfl g (.string ⟨r'.toArray⟩) rfl rfl rfl 9 _ S1.out (by kernel_rfl) ?_; intro v2 oy bY
      have S2 := qh bY
      have K2 := qh (oy.blk K1.out (by simpa using fun e => HN.out e.symm))
      have P2 := qh (P1.out.only oy (.inl (by simp)))
      clear oy bY))
  go_ret
  exact ⟨P2.out, rfl, S2.out, K2.out⟩
theorem Ro (r : List UInt8) (hs : r.length ≤ 1000000) (n0 : Nat) (g gn : Nat) (hne : g ≠ gn) (w : World) (hr : Sb w g r) (hb : Nb w gn n0) :
 Calls Tryz.prog 80 #[.pointer (some ⟨gn, 0, none⟩), .pointer (some ⟨g, 0, none⟩)] w fun e w' => dL [g, gn] w w' ∧ match um r with
  | .ok (n, r') => e = .returned (.int .i64 0) ∧ Sb w' g r' ∧ Nb w' gn n
  | .error er => e = .returned (.int .i64 er) := by
 have hc := Mo r hs n0 g gn hne w hr hb
 have HC := qh hc
 clear hc hr hb
 cases hq : um r with
 | error er =>
  rw [hq] at HC
  go_enter Tryz.func80, Tryz.ntmps80
  go_wp2_with fail
  refine HC.out.mono ?_
  rintro e w1 ⟨p1, h1⟩
  obtain rfl : e = .returned (.int .i64 er) := h1
  go_wp2_with fail
  go_ret
  exact ⟨p1, rfl⟩
 | ok x =>
  obtain ⟨k, r'⟩ := x
  rw [hq] at HC
  go_enter Tryz.func80, Tryz.ntmps80
  go_wp2_with fail
  refine HC.out.mono ?_
  rintro e w1 ⟨p1, h1⟩
  obtain ⟨rfl, s1, b1⟩ := (h1 : _ ∧ _ ∧ _)
  have S1 := qh s1
  have B1 := qh b1
  clear s1 b1
  go_wp2_with fail
  go_ret
  exact ⟨p1, rfl, S1.out, B1.out⟩
theorem Rn (gn n : Nat) (hn : n ≤ 18446744073709551615) (w : World) (h : Nb w gn n) :
 Calls Tryz.prog 82 #[.pointer (some ⟨gn, 0, none⟩)] w fun e w' => e = .returned (.int .i64 (qf n)) ∧ w' = w := by
 have c := h.cell 0
 have hc : ∀ w, Calls Tryz.prog 42 #[.int .u64 n] w fun e w' => e = .returned (.int .i64 (qf n)) ∧ w' = w := fun w => Fy n hn w
 obtain ⟨z, hz⟩ : ∃ z, qf n = z := ⟨_, rfl⟩
 rw [hz] at hc ⊢
 have HC := qh hc
 clear hc hz
 go_enter Tryz.func82, Tryz.ntmps82
 go_wp2_with fail
 refine (HC.out _).mono ?_
 rintro e w1 ⟨rfl, rfl⟩
 go_wp2_with fail
 go_ret
 exact ⟨rfl, rfl⟩
theorem Yn (r : List UInt8) (w : World) :
 Calls Tryz.prog 86 #[.string ⟨r.toArray⟩] w fun e w' => e = .returned (.int .i64 (if r = [] then 0 else 50)) ∧ w' = w := by
 cases r with
 | nil =>
  go_enter Tryz.func86, Tryz.ntmps86
  go_wp2
  go_ret
  exact ⟨rfl, rfl⟩
 | cons b t =>
  go_enter Tryz.func86, Tryz.ntmps86
  go_wp2
  go_ret
  exact ⟨rfl, rfl⟩
theorem Rl (r : List UInt8) (g : Nat) (w : World) (h : Sb w g r) :
 Calls Tryz.prog 85 #[.pointer (some ⟨g, 0, none⟩)] w fun e w' => e = .returned (.int .i64 (if r = [] then 0 else 50)) ∧ w' = w := by
 have c := h.cell 0
 obtain ⟨z, hz⟩ : ∃ z : Int, (if r = [] then 0 else 50) = z := ⟨_, rfl⟩
 have hc := Yn r w
 rw [hz] at hc ⊢
 have HC := qh hc
 clear hc hz
 go_enter Tryz.func85, Tryz.ntmps85
 go_wp2_with fail
 refine HC.out.mono ?_
 rintro e w1 ⟨rfl, rfl⟩
 go_wp2_with fail
 go_ret
 exact ⟨rfl, rfl⟩
theorem LB.own {α : Type} {enc : α → List Value} {k : Nat} {e : TypeId} {w : World} {A : Option Addr} {c : Nat} {l : List α} (hk : ∀ x, (enc x).length = k) (h : LB enc e w A c l) (hm : l.length ≤ maxLen) : w.ownsRow 0 e k (.slice A l.length c) l.length (cellsOf enc l) := by
 rcases h with ⟨rfl, rfl, rfl⟩ | ⟨b, rfl, rfl, hb⟩
 ·exact World.ownsRow_nil _ _ _ _
 ·refine ⟨by rw [aT hk], .inr ⟨b, _, _, rfl, Nat.zero_le _, hb, Nat.le_refl _, hm, by rw [List.size_toArray, aT hk], ?_⟩⟩
  rw [List.take_of_length_le (by rw [aT hk]; exact Nat.le_refl _)]
theorem TL.to {w : World} {a : aY} (h : TL w a) (hok : ry a.T) : TO w a :=
 ⟨h.ins.own (fT _) (Nat.le_trans hok.1 (by decide)), h.outs.own (fU _) (Nat.le_trans hok.2.1 (by decide)), h.av.own aC (Nat.le_trans hok.2.2.1 (by decide)), h.notes.own aC (Nat.le_trans hok.2.2.2.1 (by decide))⟩
theorem uy {L : List Nat} {w w' : World} {b : Nat} {e : TypeId} {k m : Nat} {u : Value} {ys : List Value} (h : w.ownsRow b e k u m ys) (p : dL L w w') (hL : ∀ i ∈ L, ∃ t cs, ax w i t cs ∧ e ≠ t) : w'.ownsRow b e k u m ys := by
 refine ⟨h.1, h.2.imp id fun ⟨g, cap, cur, h1, h2, h3, h4⟩ => ⟨g, cap, cur, h1, h2, ?_, h4⟩⟩
 have hb : ax w g e cur := h3
 exact (p.block g hb.lt (fun q => by
  obtain ⟨t, cs, h5, h6⟩ := hL g q
  have := lJ h h5 h6
  rw [h1] at this
  exact this rfl)).trans h3
theorem TO.past {L : List Nat} {w w' : World} {a : aY} (h : TO w a) (p : dL L w w') (hL : ∀ i ∈ L, ∃ t cs, ax w i t cs ∧ 142 ≠ t ∧ 144 ≠ t ∧ 26 ≠ t) : TO w' a :=
 ⟨uy h.ins p (fun i hi => by obtain ⟨t, cs, h1, h2, _⟩ := hL i hi; exact ⟨t, cs, h1, h2⟩), uy h.outs p (fun i hi => by obtain ⟨t, cs, h1, _, h2, _⟩ := hL i hi; exact ⟨t, cs, h1, h2⟩),
  uy h.av p (fun i hi => by obtain ⟨t, cs, h1, _, _, h2⟩ := hL i hi; exact ⟨t, cs, h1, h2⟩), uy h.notes p (fun i hi => by obtain ⟨t, cs, h1, _, _, h2⟩ := hL i hi; exact ⟨t, cs, h1, h2⟩)⟩
end
section
open Go.RowKit
theorem Re (r : List UInt8) (hs : r.length ≤ 1000000) (gA g : Nat) (hne : gA ≠ g) (j : Nat) (L : List aY) (hj : j < L.length) (w : World) (hA : ax w gA 92 (cellsOf aY.cells L).toArray) (hr : Sb w g r) :
 Calls Tryz.prog 132 #[.pointer (some ⟨gA, j * 38, none⟩), .pointer (some ⟨g, 0, none⟩), .func (.func 133) #[] #[]] w fun e w' => dL [gA, g] w w' ∧ match nV r with
  | .ok (T, r') => e = .returned (.int .i64 0) ∧ Sb w' g r' ∧ ∃ a : aY, a.T = T ∧ TO w' a ∧ ax w' gA 92 (cellsOf aY.cells (L.set j a)).toArray
  | .error er => e = .returned (.int .i64 er) := by
 have hc := Vb r hs w
 have cs := hr.cell 0
 have HN := qh hne
 have HJ := qh hj
 have HR := qh hr
 have HA := qh hA
 clear hr hA hne hj
 cases hq : nV r with
 | error er =>
  rw [show og r = (Kc, [], er) by unfold og; rw [hq]] at hc
  have HC := qh hc
  clear hc hq
  go_enter Tryz.func132, Tryz.ntmps132
  go_wp2_with fail
  refine HC.out.mono ?_
  rintro e w1 ⟨⟨a, ha, rfl, tl⟩, b1⟩
  have KS := qh (aa b1 HR.out HR.out.lt)
  have KB := qh (aa b1 HA.out HA.out.lt)
  have PP := qh (dL.of_below (L := [gA, g]) b1)
  have HT := qh ha
  have TL1 := qh tl
  clear b1 HC cs HR HA ha tl
  go_wp2_with (first
   | ((with_reducible refine ag 18 15 ?_); refine mD.aj rfl (.tmp 18) (.tmp 15) rfl rfl gA j a rfl rfl 92 _ KB.out HJ.out ?_; intro v1 ox bx
      have K1 := qh bx
      have S1 := qh (ox.blk KS.out (by simpa using fun e => HN.out e.symm))
      have P1 := qh (PP.out.only ox (.inl (by simp)))
      skip
      clear ox bx)
   | ((with_reducible refine ag 19 16 ?_); refine aF rfl 9 (.tmp 19) (.tmp 16) rfl rfl g (.string ⟨([] : List UInt8).toArray⟩) rfl rfl rfl 9 _ S1.out (by kernel_rfl) ?_; intro v2 oy bY
      have S2 := qh bY
      have K2 := qh (oy.blk K1.out (by simpa using HN.out))
      have P2 := qh (P1.out.only oy (.inl (by simp)))
      skip
      clear oy bY))
  go_ret
  exact ⟨P2.out, rfl⟩
 | ok x =>
  obtain ⟨T, r'⟩ := x
  rw [show og r = (T, r', 0) by unfold og; rw [hq]] at hc
  have HOK := qh (Uz Cm hq)
  have HC := qh hc
  clear hc hq
  go_enter Tryz.func132, Tryz.ntmps132
  go_wp2_with fail
  refine HC.out.mono ?_
  rintro e w1 ⟨⟨a, ha, rfl, tl⟩, b1⟩
  have KS := qh (aa b1 HR.out HR.out.lt)
  have KB := qh (aa b1 HA.out HA.out.lt)
  have PP := qh (dL.of_below (L := [gA, g]) b1)
  have HT := qh ha
  have TL1 := qh tl
  clear b1 HC cs HR HA ha tl
  go_wp2_with (first
   | ((with_reducible refine ag 18 15 ?_); refine mD.aj rfl (.tmp 18) (.tmp 15) rfl rfl gA j a rfl rfl 92 _ KB.out HJ.out ?_; intro v1 ox bx
      have K1 := qh bx
      have S1 := qh (ox.blk KS.out (by simpa using fun e => HN.out e.symm))
      have P1 := qh (PP.out.only ox (.inl (by simp)))
      have T1 := qh ((TL1.out.to (HT.out ▸ HOK.out)).Ay ox KB.out (by decide) (by decide) (by decide))
      clear ox bx)
   | ((with_reducible refine ag 19 16 ?_); refine aF rfl 9 (.tmp 19) (.tmp 16) rfl rfl g (.string ⟨r'.toArray⟩) rfl rfl rfl 9 _ S1.out (by kernel_rfl) ?_; intro v2 oy bY
      have S2 := qh bY
      have K2 := qh (oy.blk K1.out (by simpa using HN.out))
      have P2 := qh (P1.out.only oy (.inl (by simp)))
      have T2 := qh (T1.out.Ay oy S1.out (by decide) (by decide) (by decide))
      clear oy bY))
  go_ret
  exact ⟨P2.out, rfl, S2.out, a, HT.out, T2.out, K2.out⟩
theorem VW {w : World} {gb : Nat} {bk : bF} {l m : List aY} {A : Option Addr} {c : Nat} (h : Bb w gb ({ bk with bG := l, A := A, c := c } : bF)) (e : l.length = m.length) : Bb w gb ({ bk with bG := m, A := A, c := c } : bF) := by
 have : ({ bk with bG := l, A := A, c := c } : bF).cells = ({ bk with bG := m, A := A, c := c } : bF).cells := by
  unfold bF.cells
  simp only [e]
 unfold Bb at h ⊢
 rwa [← this]
theorem TF {α : Type} {enc : α → List Value} {k : Nat} {e : TypeId} {w : World} {g : Nat} {l : List α} (hk : ∀ x, (enc x).length = k) (h : ax w g e (cellsOf enc l).toArray) (hm : l.length ≤ maxLen) : w.ownsRow 0 e k (.slice (some ⟨g, 0, none⟩) l.length l.length) l.length (cellsOf enc l) := by
 refine ⟨by rw [aT hk], .inr ⟨g, _, _, rfl, Nat.zero_le _, h, Nat.le_refl _, hm, by rw [List.size_toArray, aT hk], ?_⟩⟩
 rw [List.take_of_length_le (by rw [aT hk]; exact Nat.le_refl _)]
theorem dL.row {g gb : Nat} {w w1 w2 : World} (h : dL [g, gb] w w1) (k : dL [w.heap.size, g] w1 w2) : dL [g, gb] w w2 :=
 ⟨k.os.trans h.os, k.tape.trans h.tape, k.output.trans h.output, Nat.le_trans h.size k.size, fun i hi hg => (k.block i (Nat.lt_of_lt_of_le hi h.size) (by
  intro q
  rcases List.mem_cons.1 q with q | q
  ·omega
  ·obtain rfl : i = g := by simpa using q
   exact hg (by simp))).trans (h.block i hi hg)⟩
def U0 (bk : bF) (g gb : Nat) (w : World) (x : Except Int (List dX × List UInt8)) (e : Ending) (w' : World) : Prop :=
 dL [g, gb] w w' ∧ match x with
 | .error er => e = .returned (.int .i64 er)
 | .ok (l, r) => e = .returned (.int .i64 0) ∧ Sb w' g r ∧ ∃ b' : bF, b'.B = ⟨bk.prev, bk.root, bk.iR, l⟩ ∧ Bb w' gb b' ∧ BO w' b'
theorem JM (n : Nat) (hn : n ≤ 30) (r0 : List UInt8) (hs : r0.length ≤ 1000000) (bk : bF) (g gb : Nat) (hne : g ≠ gb) (w : World) (hr : Sb w g r0) (hb : Bb w gb bk) :
 Calls Tryz.prog 84 #[.pointer (some ⟨gb, 0, none⟩), .pointer (some ⟨g, 0, none⟩), .int .i64 n] w (U0 bk g gb w (dw nV n r0)) := by
 obtain ⟨z, hz⟩ : ∃ z : aY, z = ⟨jl, none, 0, none, 0, none, 0, none, 0⟩ := ⟨_, rfl⟩
 have hmk : ∀ W, (Instr.makeSlice 68 (.int .i64 (n : Int)) (.int .i64 (n : Int))).run Tryz.prog W = .ok (.slice (some ⟨W.heap.size, 0, none⟩) n n) (W.alloc (.cells (cellsOf aY.cells (List.replicate n z)).toArray 92)) := fun W =>
  mD.made W z (.agg z.cells.toArray) 144 (by subst hz; kernel_rfl) rfl (by omega) .i64 .i64 n (by omega)
 clear hz
 obtain ⟨X, hX⟩ : ∃ X, dw nV n r0 = X := ⟨_, rfl⟩
 rw [hX]
 have HX := qh hX
 have HN := qh hne
 have LG := qh hr.lt
 have LB' := qh hb.lt
 have S0 := qh (hr.alloc (.cells (cellsOf aY.cells (List.replicate n z)).toArray 92))
 have B0 := qh (show ax _ _ _ _ from ax.alloc hb (.cells (cellsOf aY.cells (List.replicate n z)).toArray 92))
 have A0 := qh (ax.new w 92 (cellsOf aY.cells (List.replicate n z)).toArray)
 clear hX hr hb hne
 go_enter Tryz.func84, Tryz.ntmps84
 go_wp2_with (first
  | ((with_reducible refine ag 13 11 ?_); refine aJ rfl 68 (.tmp 13) (.tmp 11) rfl rfl gb 65 (.slice (some ⟨w.heap.size, 0, none⟩) (List.replicate n z).length n) rfl (by rw [List.length_replicate]; rfl) rfl 70 _ B0.out (by rw [fe.arr]; omega) (by kernel_rfl) ?_; intro w5 ox bx; rw [bF.Iy] at bx
     have KB := qh bx
     have KS := qh (ox.blk S0.out (by simpa using HN.out))
     have KA := qh (ox.blk A0.out (by have := LB'.out; simp; omega))
     have PP := qh ((dL.of_below (L := [g, gb]) ((Below.refl _ w).alloc (Nat.le_refl _) (.cells (cellsOf aY.cells (List.replicate n z)).toArray 92))).only ox (.inl (by simp)))
     have cell : w5.cell? ⟨gb, 65, none⟩ = some (.slice (some ⟨w.heap.size, 0, none⟩) (List.replicate n z).length n) := bF.c3 (au.ah bx)
     rw [List.length_replicate] at cell
     clear ox bx S0 B0 A0))
 clear hmk cell
 go_loopw [19] (fun i wr => ∃ (kP : List aY) (r : List UInt8) (m : Nat), kP.length + m = n ∧ i = .int .i64 (kP.length : Nat) ∧ Hid (X = nO (kP.map aY.T) (dw nV m r) ∧ r.length ≤ 1000000) ∧ Hid (ax wr w.heap.size 92 (cellsOf aY.cells (kP ++ List.replicate m z)).toArray) ∧ Hid (∀ t ∈ kP, TO wr t) ∧ Hid (Bb wr gb ({ bk with bG := List.replicate n z, A := some ⟨w.heap.size, 0, none⟩, c := n } : bF)) ∧ Hid (Sb wr g r) ∧ Hid (dL [g, gb] w wr)) (fun i _ => n - (intOf i).toNat)
 case atStart =>
  refine ⟨[], r0, n, by simp, rfl, qh ⟨?_, hs⟩, qh KA.out, qh (fun _ h => by cases h), KB, KS, PP⟩
  rw [HX.out]
  cases X <;> rfl
 case round =>
  clear KB KS KA PP HX hs
  obtain ⟨kP, r, m, hlm, rfl, hx, OV, ZC, KB, KS, PP⟩ := hrel
  obtain ⟨j, hj⟩ : ∃ j, kP.length = j := ⟨_, rfl⟩
  have HJ := qh hj
  have cell : wr.cell? ⟨gb, 65, none⟩ = some (.slice (some ⟨w.heap.size, 0, none⟩) (List.replicate n z).length n) := bF.c3 (au.ah KB.out)
  rw [List.length_replicate] at cell
  cases m with
  | zero =>
   have hjn : j = n := by omega
   rw [hj]
   clear hlm hj
   have HXL := qh (show X = .ok (kP.map aY.T, r) by rw [hx.out.1]; simp [nO, dw])
   clear hx
   subst hjn
   go_wp2
   go_ret
   rw [HXL.out]
   have hov := OV.out
   rw [List.replicate_zero, List.append_nil] at hov
   have hbb := VW KB.out (m := kP) (by rw [List.length_replicate, HJ.out])
   refine ⟨PP.out, rfl, KS.out, _, ?_, hbb, ?_, ZC.out⟩
   ·rfl
   ·have := TF aY.len hov (by rw [HJ.out]; unfold maxLen; omega)
    rw [HJ.out] at this
    simpa only [HJ.out] using this
  | succ m =>
   have hlt : j < n := by omega
   rw [hj]
   clear hj
   have hc := Re r hx.out.2 w.heap.size g (by have := LG.out; omega) j (kP ++ List.replicate (m + 1) z) (by rw [List.length_append, HJ.out, List.length_replicate]; omega) wr OV.out KS.out
   cases hq : nV r with
   | error er =>
    have he0 : er ≠ 0 := by rcases Ct r er hq with h | h | h <;> omega
    have hd : (er == 0) = false := beq_eq_false_iff_ne.mpr he0
    rw [hq] at hc
    have HE := qh (show X = .error er by rw [hx.out.1, qM hq]; rfl)
    have HC := qh hc
    clear hc hq he0 hlm hx OV ZC KB
    go_wp2_with fail
    refine HC.out.mono ?_
    rintro e w1 ⟨p1, h1⟩
    obtain rfl : e = .returned (.int .i64 er) := h1
    have P1 := qh (PP.out.row p1)
    clear p1 HC cell PP
    go_wp2_with fail
    go_ret
    rw [HE.out]
    exact ⟨P1.out, rfl⟩
   | ok x =>
    obtain ⟨T, r2⟩ := x
    rw [hq] at hc
    have HS := qh (bV Cm hq hx.out.2)
    have YH := qh (show X = nO (kP.map aY.T ++ [T]) (dw nV m r2) by rw [hx.out.1, uE hq])
    have Ws := qh hlm
    have HC := qh hc
    clear hc hq hlm hx
    go_wp2_with fail
    refine HC.out.mono ?_
    rintro e w1 ⟨p1, h1⟩
    obtain ⟨rfl, s1, a, ha, ta, k1⟩ := (h1 : _ ∧ _ ∧ _)
    have S1 := qh s1
    have aaD := qh (show ∀ t ∈ kP ++ [a], TO w1 t by
     intro t ht
     rcases List.mem_append.1 ht with h | h
     ·refine (ZC.out t h).past p1 (fun i hi => ?_)
      rcases List.mem_cons.1 hi with rfl | hi
      ·exact ⟨_, _, OV.out, by decide, by decide, by decide⟩
      ·obtain rfl : i = g := by simpa using hi
       exact ⟨_, _, KS.out, by decide, by decide, by decide⟩
     ·obtain rfl : t = a := by simpa using h
      exact ta)
    have K1 := qh (show ax w1 w.heap.size 92 (cellsOf aY.cells ((kP ++ [a]) ++ List.replicate m z)).toArray by rw [← tX, HJ.out]; exact k1)
    have ZG := qh (p1.blk KB.out (by have h1 := LB'.out; have h2 := HN.out; simp; omega))
    have P1 := qh (PP.out.row p1)
    have YI := qh (show X = nO ((kP ++ [a]).map aY.T) (dw nV m r2) by rw [YH.out, List.map_append, ← ha]; rfl)
    have e1 : (kP ++ [a]).length = j + 1 := by rw [List.length_append, HJ.out]; rfl
    clear s1 ta k1 p1 HC OV ZC KB KS PP ha cell
    go_wp2_with fail
    go_roundw
    case rel => exact ⟨kP ++ [a], r2, m, by rw [e1]; have h1 := Ws.out; have h2 := HJ.out; omega, by rw [e1]; go_num, qh ⟨YI.out, HS.out⟩, K1, aaD, ZG, S1, P1⟩
    case measure => simp [intOf]; omega
theorem Rm (n : Nat) (hn : n ≤ 30) (r0 : List UInt8) (hs : r0.length ≤ 1000000) (bk : bF) (g gb gn : Nat) (hne : g ≠ gb) (w : World) (hr : Sb w g r0) (hb : Bb w gb bk) (hnb : Nb w gn n) :
 Calls Tryz.prog 83 #[.pointer (some ⟨gb, 0, none⟩), .pointer (some ⟨g, 0, none⟩), .pointer (some ⟨gn, 0, none⟩)] w (U0 bk g gb w (dw nV n r0)) := by
 have hc := JM n hn r0 hs bk g gb hne w hr hb
 have c := hnb.cell 0
 have hw64 : wrap64 (n : Int) = n := by unfold wrap64; omega
 obtain ⟨X, hX⟩ : ∃ X, dw nV n r0 = X := ⟨_, rfl⟩
 rw [hX] at hc ⊢
 have HC := qh hc
 clear hc hX hr hb hnb
 cases X with
 | error er =>
  go_enter Tryz.func83, Tryz.ntmps83
  go_wp2_with fail
  refine HC.out.mono ?_
  rintro e w1 ⟨p1, h1⟩
  obtain rfl : e = .returned (.int .i64 er) := h1
  go_wp2_with fail
  go_ret
  exact ⟨p1, rfl⟩
 | ok x =>
  obtain ⟨L, r⟩ := x
  go_enter Tryz.func83, Tryz.ntmps83
  go_wp2_with fail
  refine HC.out.mono ?_
  rintro e w1 ⟨p1, h1⟩
  obtain ⟨rfl, h2⟩ := (h1 : _ ∧ _)
  have H2 := qh h2
  clear h2
  go_wp2_with fail
  go_ret
  exact ⟨p1, rfl, H2.out⟩
end
section
open Go.RowKit
structure DI (w w' : World) (r : List UInt8) (bk : bF) (z n : Nat) : Prop where
 below : Below w.heap.size w w'
 s : Sb w' w.heap.size r
 z0 : ax w' (w.heap.size + 1) 70 bZ.cells.toArray
 b : Bb w' (w.heap.size + 1 + 1) bk
 c : Nb w' (w.heap.size + 1 + 1 + 1) z
 n : Nb w' (w.heap.size + 1 + 1 + 1 + 1) n
 f : ax w' (w.heap.size + 1 + 1 + 1 + 1 + 1) 100 #[.func (.func 73) #[] #[.pointer (some ⟨w.heap.size + 1 + 1, 0, none⟩), .pointer (some ⟨w.heap.size, 0, none⟩)], .func (.func 76) #[] #[.pointer (some ⟨w.heap.size + 1 + 1, 0, none⟩), .pointer (some ⟨w.heap.size, 0, none⟩)], .func (.func 77) #[] #[.pointer (some ⟨w.heap.size + 1 + 1 + 1, 0, none⟩), .pointer (some ⟨w.heap.size, 0, none⟩)], .func (.func 80) #[] #[.pointer (some ⟨w.heap.size + 1 + 1 + 1 + 1, 0, none⟩), .pointer (some ⟨w.heap.size, 0, none⟩)], .func (.func 82) #[] #[.pointer (some ⟨w.heap.size + 1 + 1 + 1 + 1, 0, none⟩)], .func (.func 83) #[] #[.pointer (some ⟨w.heap.size + 1 + 1, 0, none⟩), .pointer (some ⟨w.heap.size, 0, none⟩), .pointer (some ⟨w.heap.size + 1 + 1 + 1 + 1, 0, none⟩)], .func (.func 85) #[] #[.pointer (some ⟨w.heap.size, 0, none⟩)]]
theorem DI.init (w : World) (l : List UInt8) (cz : Array Value) (hz : cz = bZ.cells.toArray) : DI w ((((((w.alloc (.cells #[.string ⟨l.toArray⟩] 9)).alloc (.cells cz 70)).alloc (.cells cz 70)).alloc (.cells #[.int .u64 0] 48)).alloc (.cells #[.int .u64 0] 48)).alloc (.cells #[.func (.func 73) #[] #[.pointer (some ⟨w.heap.size + 1 + 1, 0, none⟩), .pointer (some ⟨w.heap.size, 0, none⟩)], .func (.func 76) #[] #[.pointer (some ⟨w.heap.size + 1 + 1, 0, none⟩), .pointer (some ⟨w.heap.size, 0, none⟩)], .func (.func 77) #[] #[.pointer (some ⟨w.heap.size + 1 + 1 + 1, 0, none⟩), .pointer (some ⟨w.heap.size, 0, none⟩)], .func (.func 80) #[] #[.pointer (some ⟨w.heap.size + 1 + 1 + 1 + 1, 0, none⟩), .pointer (some ⟨w.heap.size, 0, none⟩)], .func (.func 82) #[] #[.pointer (some ⟨w.heap.size + 1 + 1 + 1 + 1, 0, none⟩)], .func (.func 83) #[] #[.pointer (some ⟨w.heap.size + 1 + 1, 0, none⟩), .pointer (some ⟨w.heap.size, 0, none⟩), .pointer (some ⟨w.heap.size + 1 + 1 + 1 + 1, 0, none⟩)], .func (.func 85) #[] #[.pointer (some ⟨w.heap.size, 0, none⟩)]] 100)) l bZ 0 0 := by
 subst hz
 have h0 := ((((((ax.new w 9 #[.string ⟨l.toArray⟩]).alloc (.cells bZ.cells.toArray 70)).alloc (.cells bZ.cells.toArray 70)).alloc (.cells #[.int .u64 0] 48)).alloc (.cells #[.int .u64 0] 48)).alloc (.cells #[.func (.func 73) #[] #[.pointer (some ⟨w.heap.size + 1 + 1, 0, none⟩), .pointer (some ⟨w.heap.size, 0, none⟩)], .func (.func 76) #[] #[.pointer (some ⟨w.heap.size + 1 + 1, 0, none⟩), .pointer (some ⟨w.heap.size, 0, none⟩)], .func (.func 77) #[] #[.pointer (some ⟨w.heap.size + 1 + 1 + 1, 0, none⟩), .pointer (some ⟨w.heap.size, 0, none⟩)], .func (.func 80) #[] #[.pointer (some ⟨w.heap.size + 1 + 1 + 1 + 1, 0, none⟩), .pointer (some ⟨w.heap.size, 0, none⟩)], .func (.func 82) #[] #[.pointer (some ⟨w.heap.size + 1 + 1 + 1 + 1, 0, none⟩)], .func (.func 83) #[] #[.pointer (some ⟨w.heap.size + 1 + 1, 0, none⟩), .pointer (some ⟨w.heap.size, 0, none⟩), .pointer (some ⟨w.heap.size + 1 + 1 + 1 + 1, 0, none⟩)], .func (.func 85) #[] #[.pointer (some ⟨w.heap.size, 0, none⟩)]] 100))
 have h1 := (((((ax.new (w.alloc (.cells #[.string ⟨l.toArray⟩] 9)) 70 bZ.cells.toArray).alloc (.cells bZ.cells.toArray 70)).alloc (.cells #[.int .u64 0] 48)).alloc (.cells #[.int .u64 0] 48)).alloc (.cells #[.func (.func 73) #[] #[.pointer (some ⟨w.heap.size + 1 + 1, 0, none⟩), .pointer (some ⟨w.heap.size, 0, none⟩)], .func (.func 76) #[] #[.pointer (some ⟨w.heap.size + 1 + 1, 0, none⟩), .pointer (some ⟨w.heap.size, 0, none⟩)], .func (.func 77) #[] #[.pointer (some ⟨w.heap.size + 1 + 1 + 1, 0, none⟩), .pointer (some ⟨w.heap.size, 0, none⟩)], .func (.func 80) #[] #[.pointer (some ⟨w.heap.size + 1 + 1 + 1 + 1, 0, none⟩), .pointer (some ⟨w.heap.size, 0, none⟩)], .func (.func 82) #[] #[.pointer (some ⟨w.heap.size + 1 + 1 + 1 + 1, 0, none⟩)], .func (.func 83) #[] #[.pointer (some ⟨w.heap.size + 1 + 1, 0, none⟩), .pointer (some ⟨w.heap.size, 0, none⟩), .pointer (some ⟨w.heap.size + 1 + 1 + 1 + 1, 0, none⟩)], .func (.func 85) #[] #[.pointer (some ⟨w.heap.size, 0, none⟩)]] 100))
 have h2 := ((((ax.new ((w.alloc (.cells #[.string ⟨l.toArray⟩] 9)).alloc (.cells bZ.cells.toArray 70)) 70 bZ.cells.toArray).alloc (.cells #[.int .u64 0] 48)).alloc (.cells #[.int .u64 0] 48)).alloc (.cells #[.func (.func 73) #[] #[.pointer (some ⟨w.heap.size + 1 + 1, 0, none⟩), .pointer (some ⟨w.heap.size, 0, none⟩)], .func (.func 76) #[] #[.pointer (some ⟨w.heap.size + 1 + 1, 0, none⟩), .pointer (some ⟨w.heap.size, 0, none⟩)], .func (.func 77) #[] #[.pointer (some ⟨w.heap.size + 1 + 1 + 1, 0, none⟩), .pointer (some ⟨w.heap.size, 0, none⟩)], .func (.func 80) #[] #[.pointer (some ⟨w.heap.size + 1 + 1 + 1 + 1, 0, none⟩), .pointer (some ⟨w.heap.size, 0, none⟩)], .func (.func 82) #[] #[.pointer (some ⟨w.heap.size + 1 + 1 + 1 + 1, 0, none⟩)], .func (.func 83) #[] #[.pointer (some ⟨w.heap.size + 1 + 1, 0, none⟩), .pointer (some ⟨w.heap.size, 0, none⟩), .pointer (some ⟨w.heap.size + 1 + 1 + 1 + 1, 0, none⟩)], .func (.func 85) #[] #[.pointer (some ⟨w.heap.size, 0, none⟩)]] 100))
 have h3 := (((ax.new (((w.alloc (.cells #[.string ⟨l.toArray⟩] 9)).alloc (.cells bZ.cells.toArray 70)).alloc (.cells bZ.cells.toArray 70)) 48 #[.int .u64 0]).alloc (.cells #[.int .u64 0] 48)).alloc (.cells #[.func (.func 73) #[] #[.pointer (some ⟨w.heap.size + 1 + 1, 0, none⟩), .pointer (some ⟨w.heap.size, 0, none⟩)], .func (.func 76) #[] #[.pointer (some ⟨w.heap.size + 1 + 1, 0, none⟩), .pointer (some ⟨w.heap.size, 0, none⟩)], .func (.func 77) #[] #[.pointer (some ⟨w.heap.size + 1 + 1 + 1, 0, none⟩), .pointer (some ⟨w.heap.size, 0, none⟩)], .func (.func 80) #[] #[.pointer (some ⟨w.heap.size + 1 + 1 + 1 + 1, 0, none⟩), .pointer (some ⟨w.heap.size, 0, none⟩)], .func (.func 82) #[] #[.pointer (some ⟨w.heap.size + 1 + 1 + 1 + 1, 0, none⟩)], .func (.func 83) #[] #[.pointer (some ⟨w.heap.size + 1 + 1, 0, none⟩), .pointer (some ⟨w.heap.size, 0, none⟩), .pointer (some ⟨w.heap.size + 1 + 1 + 1 + 1, 0, none⟩)], .func (.func 85) #[] #[.pointer (some ⟨w.heap.size, 0, none⟩)]] 100))
 have h4 := ((ax.new ((((w.alloc (.cells #[.string ⟨l.toArray⟩] 9)).alloc (.cells bZ.cells.toArray 70)).alloc (.cells bZ.cells.toArray 70)).alloc (.cells #[.int .u64 0] 48)) 48 #[.int .u64 0]).alloc (.cells #[.func (.func 73) #[] #[.pointer (some ⟨w.heap.size + 1 + 1, 0, none⟩), .pointer (some ⟨w.heap.size, 0, none⟩)], .func (.func 76) #[] #[.pointer (some ⟨w.heap.size + 1 + 1, 0, none⟩), .pointer (some ⟨w.heap.size, 0, none⟩)], .func (.func 77) #[] #[.pointer (some ⟨w.heap.size + 1 + 1 + 1, 0, none⟩), .pointer (some ⟨w.heap.size, 0, none⟩)], .func (.func 80) #[] #[.pointer (some ⟨w.heap.size + 1 + 1 + 1 + 1, 0, none⟩), .pointer (some ⟨w.heap.size, 0, none⟩)], .func (.func 82) #[] #[.pointer (some ⟨w.heap.size + 1 + 1 + 1 + 1, 0, none⟩)], .func (.func 83) #[] #[.pointer (some ⟨w.heap.size + 1 + 1, 0, none⟩), .pointer (some ⟨w.heap.size, 0, none⟩), .pointer (some ⟨w.heap.size + 1 + 1 + 1 + 1, 0, none⟩)], .func (.func 85) #[] #[.pointer (some ⟨w.heap.size, 0, none⟩)]] 100))
 have h5 := (ax.new (((((w.alloc (.cells #[.string ⟨l.toArray⟩] 9)).alloc (.cells bZ.cells.toArray 70)).alloc (.cells bZ.cells.toArray 70)).alloc (.cells #[.int .u64 0] 48)).alloc (.cells #[.int .u64 0] 48)) 100 #[.func (.func 73) #[] #[.pointer (some ⟨w.heap.size + 1 + 1, 0, none⟩), .pointer (some ⟨w.heap.size, 0, none⟩)], .func (.func 76) #[] #[.pointer (some ⟨w.heap.size + 1 + 1, 0, none⟩), .pointer (some ⟨w.heap.size, 0, none⟩)], .func (.func 77) #[] #[.pointer (some ⟨w.heap.size + 1 + 1 + 1, 0, none⟩), .pointer (some ⟨w.heap.size, 0, none⟩)], .func (.func 80) #[] #[.pointer (some ⟨w.heap.size + 1 + 1 + 1 + 1, 0, none⟩), .pointer (some ⟨w.heap.size, 0, none⟩)], .func (.func 82) #[] #[.pointer (some ⟨w.heap.size + 1 + 1 + 1 + 1, 0, none⟩)], .func (.func 83) #[] #[.pointer (some ⟨w.heap.size + 1 + 1, 0, none⟩), .pointer (some ⟨w.heap.size, 0, none⟩), .pointer (some ⟨w.heap.size + 1 + 1 + 1 + 1, 0, none⟩)], .func (.func 85) #[] #[.pointer (some ⟨w.heap.size, 0, none⟩)]])
 simp only [World.size_alloc] at h1 h2 h3 h4 h5
 exact ⟨((((((Below.refl _ w).alloc (Nat.le_refl _) _).alloc (by simp) _).alloc (by simp; omega) _).alloc (by simp; omega) _).alloc (by simp; omega) _).alloc (by simp; omega) _, h0, h1, h2, h3, h4, h5⟩
section
variable {w w1 w2 : World} {r r' : List UInt8} {bk b' : bF} {z z' n n' : Nat}
theorem DI.key (h : DI w w1 r bk z n) (p : dL [w.heap.size, w.heap.size + 1 + 1] w1 w2) (hs : Sb w2 w.heap.size r') (hb : Bb w2 (w.heap.size + 1 + 1) b') : DI w w2 r' b' z n :=
 ⟨h.below.trans (p.below (by simp <;> omega) h.below.size), hs, p.blk h.z0 (by simp <;> omega), hb, p.blk h.c (by simp <;> omega), p.blk h.n (by simp <;> omega), p.blk h.f (by simp <;> omega)⟩
theorem DI.non (h : DI w w1 r bk z n) (p : dL [w.heap.size, w.heap.size + 1 + 1 + 1] w1 w2) (hs : Sb w2 w.heap.size r') (hn : Nb w2 (w.heap.size + 1 + 1 + 1) z') : DI w w2 r' bk z' n :=
 ⟨h.below.trans (p.below (by simp <;> omega) h.below.size), hs, p.blk h.z0 (by simp <;> omega), p.blk h.b (by simp <;> omega), hn, p.blk h.n (by simp <;> omega), p.blk h.f (by simp <;> omega)⟩
theorem DI.num (h : DI w w1 r bk z n) (p : dL [w.heap.size, w.heap.size + 1 + 1 + 1 + 1] w1 w2) (hs : Sb w2 w.heap.size r') (hn : Nb w2 (w.heap.size + 1 + 1 + 1 + 1) n') : DI w w2 r' bk z n' :=
 ⟨h.below.trans (p.below (by simp <;> omega) h.below.size), hs, p.blk h.z0 (by simp <;> omega), p.blk h.b (by simp <;> omega), p.blk h.c (by simp <;> omega), hn, p.blk h.f (by simp <;> omega)⟩
structure DE (w w' : World) : Prop where
 below : Below w.heap.size w w'
 z0 : ax w' (w.heap.size + 1) 70 bZ.cells.toArray
theorem DI.here (h : DI w w1 r bk z n) : DE w w1 := ⟨h.below, h.z0⟩
theorem DI.past {g : Nat} (h : DI w w1 r bk z n) (p : dL [w.heap.size, g] w1 w2) (hg : w.heap.size + 1 < g) : DE w w2 :=
 ⟨h.below.trans (p.below (by simp <;> omega) h.below.size), p.blk h.z0 (by simp <;> omega)⟩
end
def YY (w : World) (x : Except Int bK) (e : Ending) (w' : World) : Prop :=
 DE w w' ∧ match x with
 | .error er => er ≠ 0 ∧ e = .returned (.int .i64 er)
 | .ok B => e = .returned (.int .i64 0) ∧ ∃ (b' : bF) (z : Nat), Nb w' (w.heap.size + 1 + 1 + 1) z ∧ Bb w' (w.heap.size + 1 + 1) b' ∧ BO w' b' ∧ z < 4294967296 ∧ ({ b' with iR := dF z } : bF).B = B
theorem NF {r r' : List UInt8} {n : Nat} (h : fH r = (n, r', 0)) : yB r = if qf n = 0 then .ok (n, r') else .error (qf n) := by
 unfold yB qf
 rw [h]
 by_cases h0 : n = 0
 ·simp [h0]
 ·by_cases h1 : 30 < n <;> simp [h0, h1]
theorem OG {n : Nat} (h : qf n = 0) : 0 < n ∧ n ≤ 30 := by
 unfold qf at h
 by_cases h0 : n = 0
 ·rw [if_pos h0] at h; omega
 ·rw [if_neg h0] at h
  by_cases h1 : 30 < n
  ·rw [if_pos h1] at h; omega
  ·omega
theorem U6 (l : List UInt8) (hs : l.length ≤ 1000000) (w wI : World) (D : DI w wI l bZ 0 0) :
 Calls Tryz.prog 40 #[.slice (some ⟨w.heap.size + 1 + 1 + 1 + 1 + 1, 0, none⟩) 7 7] wI (YY w (jy l)) := by
 obtain ⟨Y, hY⟩ : ∃ Y, jy l = Y := ⟨_, rfl⟩
 rw [hY]
 have HY := qh hY
 have D0 := qh D
 clear hY D
 go_enter Tryz.func40, Tryz.ntmps40
 go_wp2_with fail
 refine wp_loop_rounds 8 ?_
 rw [rounds_succ]
 have cs := D0.out.f.cell 0
 go_wp2_with fail
 clear cs
 have hc := Rs l hs (bZ) _ _ (by omega) _ D0.out.s D0.out.b
 cases hq : gD l with
 | error er =>
  rw [hq] at hc
  have he0 : er ≠ 0 := by rcases lT _ er hq with h | h | h <;> omega
  have hd : (er == 0) = false := beq_eq_false_iff_ne.mpr he0
  have HE := qh (show Y = .error er by rw [← HY.out]; simp only [jy, Fz, fK, bT, hq])
  have HC := qh hc
  have H0 := qh he0
  clear hc he0 hq
  refine HC.out.mono ?_
  rintro e w1 ⟨p1, h1⟩
  obtain rfl : e = .returned (.int .i64 er) := h1
  have DX := qh (D0.out.past p1 (by omega))
  clear p1
  go_wp2_with fail
  go_ret
  rw [HE.out]
  exact ⟨DX.out, H0.out, rfl⟩
 | ok x =>
  obtain ⟨k0, r1⟩ := x
  have zA := qh hq
  have Ua := qh (bV dn hq hs)
  rw [hq] at hc
  have HC := qh hc
  clear hc hq
  refine HC.out.mono ?_
  rintro e w1 ⟨p1, h1⟩
  obtain ⟨rfl, s1, b1⟩ := (h1 : _ ∧ _ ∧ _)
  have D1 := qh (D0.out.key p1 s1 b1)
  clear p1 s1 b1 HC D0
  go_wp2_with fail
  rw [rounds_succ]
  have cs := D1.out.f.cell 1
  go_wp2_with fail
  clear cs
  have hc := Rq r1 Ua.out ({ bZ with prev := k0 }) _ _ (by omega) _ D1.out.s D1.out.b
  cases hq : gD r1 with
  | error er =>
   rw [hq] at hc
   have he0 : er ≠ 0 := by rcases lT _ er hq with h | h | h <;> omega
   have hd : (er == 0) = false := beq_eq_false_iff_ne.mpr he0
   have HE := qh (show Y = .error er by rw [← HY.out]; simp only [jy, Fz, fK, bT, zA.out, hq])
   have HC := qh hc
   have H0 := qh he0
   clear hc he0 hq
   refine HC.out.mono ?_
   rintro e w1 ⟨p1, h1⟩
   obtain rfl : e = .returned (.int .i64 er) := h1
   have DX := qh (D1.out.past p1 (by omega))
   clear p1
   go_wp2_with fail
   go_ret
   rw [HE.out]
   exact ⟨DX.out, H0.out, rfl⟩
  | ok x =>
   obtain ⟨k1, r2⟩ := x
   have Bu := qh hq
   have HL2 := qh (bV dn hq Ua.out)
   rw [hq] at hc
   have HC := qh hc
   clear hc hq
   refine HC.out.mono ?_
   rintro e w2 ⟨p1, h1⟩
   obtain ⟨rfl, s1, b1⟩ := (h1 : _ ∧ _ ∧ _)
   have D2 := qh (D1.out.key p1 s1 b1)
   clear p1 s1 b1 HC D1
   go_wp2_with fail
   rw [rounds_succ]
   have cs := D2.out.f.cell 2
   go_wp2_with fail
   clear cs
   have hc := Rp r2 HL2.out 0 _ _ (by omega) _ D2.out.s D2.out.c
   cases hq : jC 4 r2 with
   | error er =>
    rw [hq] at hc
    have he0 : er ≠ 0 := by have := qi 4 r2 er hq; omega
    have hd : (er == 0) = false := beq_eq_false_iff_ne.mpr he0
    have HE := qh (show Y = .error er by rw [← HY.out]; simp only [jy, Fz, fK, bT, rU, zA.out, Bu.out, hq])
    have HC := qh hc
    have H0 := qh he0
    clear hc he0 hq
    refine HC.out.mono ?_
    rintro e w1 ⟨p1, h1⟩
    obtain rfl : e = .returned (.int .i64 er) := h1
    have DX := qh (D2.out.past p1 (by omega))
    clear p1
    go_wp2_with fail
    go_ret
    rw [HE.out]
    exact ⟨DX.out, H0.out, rfl⟩
   | ok x =>
    obtain ⟨z, r3⟩ := x
    have sV := qh hq
    have HL3 := qh (bV (nL 4) hq HL2.out)
    have HZ := qh (show z < 4294967296 from Uz (nL 4) hq)
    rw [hq] at hc
    have HC := qh hc
    clear hc hq
    refine HC.out.mono ?_
    rintro e w3 ⟨p1, h1⟩
    obtain ⟨rfl, s1, b1⟩ := (h1 : _ ∧ _ ∧ _)
    have D3 := qh (D2.out.non p1 s1 b1)
    clear p1 s1 b1 HC D2
    go_wp2_with fail
    rw [rounds_succ]
    have cs := D3.out.f.cell 3
    go_wp2_with fail
    clear cs
    have hc := Ro r3 HL3.out 0 _ _ (by omega) _ D3.out.s D3.out.n
    rcases xm r3 with ⟨er, hne, hf, hg⟩ | ⟨n, r4, hf, hg, Ky⟩
    ·rw [hg] at hc
     have hq : yB r3 = .error er := by unfold yB; rw [hf]; exact if_neg hne
     have he0 : er ≠ 0 := hne
     have hd : (er == 0) = false := beq_eq_false_iff_ne.mpr he0
     have HE := qh (show Y = .error er by rw [← HY.out]; simp only [jy, Fz, fK, bT, Mj, rU, zA.out, Bu.out, sV.out, hq])
     have HC := qh hc
     have H0 := qh he0
     clear hc he0 hq hf hg hne
     refine HC.out.mono ?_
     rintro e w1 ⟨p1, h1⟩
     obtain rfl : e = .returned (.int .i64 er) := h1
     have DX := qh (D3.out.past p1 (by omega))
     clear p1
     go_wp2_with fail
     go_ret
     rw [HE.out]
     exact ⟨DX.out, H0.out, rfl⟩
    ·rw [hg] at hc
     have HC := qh hc
     have HNB := qh (NF hf)
     have aaF := qh Ky
     clear hc hf hg Ky
     refine HC.out.mono ?_
     rintro e w4 ⟨p1, h1⟩
     obtain ⟨rfl, s1, b1⟩ := (h1 : _ ∧ _ ∧ _)
     have D4 := qh (D3.out.num p1 s1 b1)
     clear p1 s1 b1 HC D3
     go_wp2_with fail
     rw [rounds_succ]
     have cs := D4.out.f.cell 4
     go_wp2_with fail
     clear cs
     have hc := Rn _ n (by have := aaF.out; omega) _ D4.out.n
     obtain ⟨q, wW⟩ : ∃ q, qf n = q := ⟨_, rfl⟩
     rw [wW] at hc
     by_cases hq0 : q = 0
     ·subst hq0
      have HC := qh hc
      have HM := qh (OG wW)
      have CY := qh (show yB r3 = .ok (n, r4) by rw [HNB.out, if_pos wW])
      have HL4 := qh (bV AQ CY.out HL3.out)
      clear hc wW
      refine HC.out.mono ?_
      rintro e w5 ⟨rfl, rfl⟩
      clear HC
      go_wp2_with fail
      rw [rounds_succ]
      have cs := D4.out.f.cell 5
      go_wp2_with fail
      clear cs
      have hc := Rm n HM.out.2 r4 HL4.out ({ bZ with prev := k0, root := k1 }) _ _ _ (by omega) _ D4.out.s D4.out.b D4.out.n
      have HYX := qh (show Y = aaz k0 k1 (dF z) (dw nV n r4) by rw [← HY.out]; simp only [jy, Fz, fK, bT, Mj, rU, zA.out, Bu.out, sV.out, CY.out]; cases dw nV n r4 <;> rfl)
      cases hq : dw nV n r4 with
      | error er =>
       rw [hq] at hc
       have he0 : er ≠ 0 := by rcases Ct.list n r4 er hq with h | h | h <;> omega
       have hd : (er == 0) = false := beq_eq_false_iff_ne.mpr he0
       have HE := qh (show Y = .error er by rw [HYX.out, hq]; rfl)
       have HC := qh hc
       have H0 := qh he0
       clear hc he0 hq
       refine HC.out.mono ?_
       rintro e w1 ⟨p1, h1⟩
       obtain rfl : e = .returned (.int .i64 er) := h1
       have DX := qh (D4.out.past p1 (by omega))
       clear p1
       go_wp2_with fail
       go_ret
       rw [HE.out]
       exact ⟨DX.out, H0.out, rfl⟩
      | ok x =>
       obtain ⟨L, r5⟩ := x
       have ZH := qh (show Y = if r5 = [] then .ok ⟨k0, k1, dF z, L⟩ else .error 50 by rw [HYX.out, hq]; rfl)
       rw [hq] at hc
       have HC := qh hc
       clear hc hq
       refine HC.out.mono ?_
       rintro e w6 ⟨p1, h1⟩
       obtain ⟨rfl, s1, b', hb', k1', o1⟩ := (h1 : _ ∧ _ ∧ _)
       have D6 := qh (D4.out.key p1 s1 k1')
       have HB := qh hb'
       have OB := qh o1
       clear p1 s1 k1' HC D4 hb' o1
       go_wp2_with fail
       rw [rounds_succ]
       have cs := D6.out.f.cell 6
       go_wp2_with fail
       clear cs
       have hc := Rl r5 _ _ D6.out.s
       by_cases h5 : r5 = []
       ·rw [if_pos h5] at hc
        have HE := qh (show Y = .ok ⟨k0, k1, dF z, L⟩ by rw [ZH.out, if_pos h5])
        have HC := qh hc
        clear hc
        refine HC.out.mono ?_
        rintro e w7 ⟨rfl, rfl⟩
        go_wp2_with fail
        rw [rounds_succ]
        go_wp2_with fail
        go_ret
        rw [HE.out]
        refine ⟨D6.out.here, rfl, b', z, D6.out.c, D6.out.b, OB.out, HZ.out, ?_⟩
        have h8 := HB.out
        unfold bF.B at h8 ⊢
        injection h8 with h9 h10 _ h11
        simp only [h9, h10, h11]
       ·rw [if_neg h5] at hc
        have HE := qh (show Y = .error 50 by rw [ZH.out, if_neg h5])
        have HC := qh hc
        clear hc
        refine HC.out.mono ?_
        rintro e w7 ⟨rfl, rfl⟩
        go_wp2_with fail
        go_ret
        rw [HE.out]
        exact ⟨D6.out.here, by decide, rfl⟩
     ·have CY := qh (show yB r3 = .error q by rw [HNB.out, if_neg (by rw [wW]; exact hq0), wW])
      have he0 : q ≠ 0 := hq0
      have hd : (q == 0) = false := beq_eq_false_iff_ne.mpr he0
      have HE := qh (show Y = .error q by rw [← HY.out]; simp only [jy, Fz, fK, bT, Mj, rU, zA.out, Bu.out, sV.out, CY.out])
      have HC := qh hc
      have H0 := qh he0
      clear hc he0 wW hq0
      refine HC.out.mono ?_
      rintro e w1 ⟨rfl, rfl⟩
      have DX := qh D4.out.here
      go_wp2_with fail
      go_ret
      rw [HE.out]
      exact ⟨DX.out, H0.out, rfl⟩
theorem VX (l : List UInt8) (hs : l.length ≤ 1000000) (w : World) :
 Calls Tryz.prog 50 #[.string ⟨l.toArray⟩] w (Jj w (jy l)) := by
 have D0 := DI.init w l Tryz.zeroCells70 (by kernel_rfl)
 have hc := U6 l hs w _ D0
 obtain ⟨Y, hY⟩ : ∃ Y, jy l = Y := ⟨_, rfl⟩
 rw [hY] at hc ⊢
 have HC := qh hc
 clear hY hc D0
 cases Y with
 | error er =>
  go_enter Tryz.func50, Tryz.ntmps50
  go_wp2_with fail
  refine HC.out.mono ?_
  rintro e w1 ⟨dx, h0, rfl⟩
  have hd : (er == 0) = false := beq_eq_false_iff_ne.mpr h0
  have DX := qh dx
  clear dx HC h0
  go_wp2_with (first
   | ((with_reducible refine bW 19 ?_); refine bu rfl 70 #[] rfl bZ.cells.toArray (by kernel_rfl) ?_)
   | ((with_reducible refine ag 2 19 ?_); refine fe.aj rfl (.tmp 2) (.tmp 19) rfl rfl (w.heap.size + 1) bZ rfl rfl 70 _ DX.out.z0 rfl ?_; intro wz oz bz))
  refine bodyPost_ret (bn rfl _ _ (w.heap.size + 1) 70 _ (0, 0) _ rfl bz Tryz.underlying70 rfl (by rw [fe.arr]; kernel_rfl)) rfl ?_
  exact Jj.err (DX.out.below.trans (oz.below (by simp))) rfl
 | ok B =>
  go_enter Tryz.func50, Tryz.ntmps50
  go_wp2_with fail
  refine HC.out.mono ?_
  rintro e w1 ⟨dx, rfl, b, z, hz, hb, ho, h32, hB⟩
  have cz := hz.cell 0
  have HV := qh (show Value.int .u32 ((z : Int) % 4294967296) = .int .u32 (dF z).1 from congrArg _ (by show (z : Int) % 4294967296 = ((z % 4294967296 : Nat) : Int); omega))
  have DX := qh dx
  have KB := qh hb
  have OB := qh (show BO w1 ({ b with iR := dF z } : bF) from ⟨ho.row, ho.each⟩)
  have HB := qh hB
  clear dx HC hz hb ho h32 hB
  go_wp2_with (first
   | ((with_reducible refine ag 23 22 ?_); refine aJ rfl 24 (.tmp 23) (.tmp 22) rfl rfl (w.heap.size + 1 + 1) 64 (.int .u32 (dF z).1) rfl HV.out rfl 70 _ KB.out (by rw [fe.arr]; omega) (by kernel_rfl) ?_; intro v1 ox bx; rw [bF.JC] at bx
      have K1 := qh bx
      have D1 := qh (show DE w v1 from ⟨DX.out.below.trans (ox.below (by simp; omega)), ox.blk DX.out.z0 (by simp)⟩)
      have O1 := qh (OB.out.only ox KB.out)
      clear ox bx)
   | ((with_reducible refine az 4 ?_); refine fe.af rfl (.tmp 4) rfl (w.heap.size + 1 + 1) 0 rfl ({ b with iR := dF z } : bF) (by simpa using au.ah K1.out) ?_)
   | ((with_reducible refine ag 2 24 ?_); refine fe.aj rfl (.tmp 2) (.tmp 24) rfl rfl (w.heap.size + 1) ({ b with iR := dF z } : bF) rfl rfl 70 _ D1.out.z0 rfl ?_; intro wz oz bz))
  refine bodyPost_ret (bn rfl _ _ (w.heap.size + 1) 70 _ (0, 0) _ rfl bz Tryz.underlying70 rfl (by rw [fe.arr]; kernel_rfl)) rfl ?_
  exact ⟨D1.out.below.trans (oz.below (by simp)), _, HB.out, rfl, O1.out.only oz D1.out.z0⟩
end
section
open Go.RowKit
theorem Rc (gv : Nat) (n : dJ) (s : List UInt8) (B : bK) (Al : Option Addr) (cl : Nat) (l : List rM) (v : CV) (k : Nat) (w : World) (h2 : ax w gv 77 #[.slice Al l.length cl]) (hd : n.d.In w w.heap.size) (hs : s.length ≤ 1000000) (hdec : jy s = .ok B) (hl : aK gu 34 w w.heap.size Al cl l) (hR : aM w) (hp : iI k n.d.V) (hB : kJ B) (hk : k + 14 ≤ 300) (hm : l.length ≤ 1500) (hv : kH n.d.V B l = .ok v) (hc : ∃ T : dX, B.bG = [T] ∧ T.av = []) :
 Calls Tryz.prog 49 #[.agg n.cells.toArray, .string ⟨s.toArray⟩, .func (.func 50) #[] #[], .func (.func 51) #[] #[.pointer (some ⟨gv, 0, none⟩)]] w fun e w' => ∃ u : CA, u.V = v ∧ e = .returned (.tuple #[.agg (⟨u, n.z⟩ : dJ).cells.toArray, .int .i64 0]) ∧ nC w.heap.size w' u ∧ Below w.heap.size w w' := by
 obtain ⟨Zn, Yi, XQ, Ew, XP⟩ := bB jF jf
 obtain ⟨Zb, Zz, aaO, Pp, aam⟩ := bB zP jf
 obtain ⟨Zk, hZk, aak, Pn, aaj⟩ := bB (show ((Tryz.prog.info? 70).bind (·.zero)) = some (.agg bZ.cells.toArray) by kernel_rfl) uU
 have HS := qh (And.intro Ew (And.intro Pp Pn))
 have eD : ∀ args W, (callFunc 50 args).run Tryz.prog W = .ok (.enter 50 args) W := enters_of Tryz.func50 (by kernel_rfl) rfl
 have eF : ∀ args W, (callFunc 51 args).run Tryz.prog W = .ok (.enter 51 args) W := enters_of Tryz.func51 (by kernel_rfl) rfl
 have H0 := qh (show Holds w [(w.heap.size + 1, 52, Zn), (w.heap.size, 52, n.cells.toArray), (gv, 77, #[.slice Al l.length cl])] ((w.alloc (.cells n.cells.toArray 52)).alloc (.cells Zn 52)) from by
  have := (((Holds.nil w).more h2).box 52 n.cells.toArray).box 52 Zn
  simpa only [World.size_alloc] using this)
 have GV := qh (show gv < w.heap.size from h2.lt)
 have RO := qh (show ∀ V, Below w.heap.size w V → aM V from fun _ hb => aM.below hR hb (aM.sH hR) (aM.qL hR))
 have OW := qh (fun V (hb : Below w.heap.size w V) => Xx n k V ((hd.below hb).more hb.size) hp (by omega) (aM.below hR hb (aM.sH hR) (aM.qL hR)))
 have VI := qh (show ∀ V, Below w.heap.size w V → aK gu 34 V V.heap.size Al cl l from fun V hb => (hl.below hb).more hb.size)
 have DE := qh (show ∀ V, Calls Tryz.prog 50 #[.string ⟨s.toArray⟩] V fun e w' => Below V.heap.size V w' ∧ ∃ b : bF, b.B = B ∧ e = .returned (.tuple #[.agg b.cells.toArray, .int .i64 0]) ∧ BO w' b from fun V => by
  have h := VX s hs V
  rw [hdec] at h
  exact h)
 have FC := qh (show ∀ (g : Nat) (y : CA) (b : bF) (V : World), y.V = n.d.V → b.B = B → ax V g 112 (⟨y, n.z⟩ : dJ).cells.toArray → ax V gv 77 #[.slice Al l.length cl] → y.In V V.heap.size → b.In V V.heap.size → Below w.heap.size w V → Calls Tryz.prog 51 #[.pointer (some ⟨g, 0, none⟩), .agg b.cells.toArray, .pointer (some ⟨gv, 0, none⟩)] V fun e w' => e = .returned (.int .i64 0) ∧ ∃ u : CA, u.V = v ∧ ax w' g 112 (⟨u, n.z⟩ : dJ).cells.toArray ∧ nC V.heap.size w' u ∧ Past g V w' from fun g y b V hy hb k1 k2 i1 i2 bl => VM g gv (⟨y, n.z⟩ : dJ) b Al cl l v k V k1 k2 i1 i2 ((hl.below bl).more bl.size) (aM.below hR bl (aM.sH hR) (aM.qL hR)) (hy ▸ hp) (hb ▸ hB) hk hm (by rw [hy, hb]; exact hv) (hb ▸ hc))
 clear hc hd hs hdec hl hR hp hB hk hm hv h2 Yi Zz hZk Ew Pp Pn
 go_enter Tryz.func49, Tryz.ntmps49
 go_wp2_with (first
  | ((with_reducible refine az 4 ?_); refine lF.af rfl (.tmp 4) rfl w.heap.size 0 rfl n (au.ah (H0.out.b (w.heap.size) (52) (n.cells.toArray) (by simp))) ?_))
 refine (OW.out _ H0.out.below).mono ?_
 rintro e w1 ⟨y, hy, rfl, o1, b1⟩
 have YV := qh hy
 have O1 := qh (o1.mono H0.out.below.size)
 have H1 := qh (H0.out.call b1)
 clear hy o1 b1 H0 OW
 go_wp2_with (first
  | ((with_reducible refine ag 10 15 ?_); refine BJ.aj rfl (.tmp 10) (.tmp 15) rfl rfl w1.heap.size (⟨y, n.z⟩ : dJ) rfl rfl 112 _ (ax.new w1 112 Zb) (by rw [HS.out.2.1]) ?_; intro w2 o2 b2
     have H2 := qh (show Holds w [(w1.heap.size, 112, (⟨y, n.z⟩ : dJ).cells.toArray), (w.heap.size + 1, 52, Zn), (w.heap.size, 52, n.cells.toArray), (gv, 77, #[.slice Al l.length cl])] w2 from H1.out.put o2 b2)
     have O2 := qh ((O1.out.from ((Below.refl _ _).alloc (Nat.le_refl _) _)).only o2 (ax.new w1 112 Zb) sF)
     have G2 := qh (show w.heap.size + 1 < w1.heap.size from (H1.out.b (w.heap.size + 1) (52) Zn (by simp)).lt)
     clear o2 b2 H1 O1)
  | ((with_reducible refine az 10 ?_); refine BJ.af rfl (.tmp 10) rfl w1.heap.size 0 rfl (⟨y, n.z⟩ : dJ) (au.ah (H2.out.b (w1.heap.size) (112) ((⟨y, n.z⟩ : dJ).cells.toArray) (by simp))) ?_))
 obtain ⟨g, hg⟩ : ∃ g, w1.heap.size = g := ⟨_, rfl⟩
 rw [hg] at H2 G2 ⊢
 clear hg
 refine (NI (⟨y, n.z⟩ : dJ) _).mono ?_
 rintro e w3 ⟨rfl, b3⟩
 have H3 := qh (H2.out.call b3)
 have O3 := qh (O2.out.from b3)
 clear b3 H2 O2
 go_wp2_with (first
  | ((with_reducible refine ag 11 17 ?_); refine lF.aj rfl (.tmp 11) (.tmp 17) rfl rfl w3.heap.size (⟨y, n.z⟩ : dJ) rfl rfl 52 _ (ax.new w3 52 Zn) (by rw [HS.out.1]) ?_; intro w4 o4 b4
     have H4 := qh (show Holds w [(g, 112, (⟨y, n.z⟩ : dJ).cells.toArray), (w.heap.size + 1, 52, Zn), (w.heap.size, 52, n.cells.toArray), (gv, 77, #[.slice Al l.length cl])] w4 from (H3.out.put o4 b4).of (fun x hx => List.mem_cons_of_mem _ hx))
     have O4 := qh ((O3.out.from ((Below.refl _ _).alloc (Nat.le_refl _) _)).only o4 (ax.new w3 52 Zn) oD)
     clear o4 b4 H3 O3)
  | (go_at_fn 50; refine (DE.out _).mono ?_; rintro e w5 ⟨b5, b, hb, rfl, ob⟩
     have H5 := qh (H4.out.call b5)
     have O5 := qh (O4.out.from b5)
     have BV := qh hb
     have IB := qh ob
     clear b5 hb ob H4 O4)
  | ((with_reducible refine ag 12 22 ?_); refine fe.aj rfl (.tmp 12) (.tmp 22) rfl rfl w5.heap.size b rfl rfl 70 _ (ax.new w5 70 Zk) (by rw [HS.out.2.2]) ?_; intro w6 o6 b6
     have E6 := qh (show Below w5.heap.size w5 w6 from ((Below.refl w5.heap.size w5).alloc (Nat.le_refl _) _).trans (o6.below (by simp)))
     have H6 := qh (show Holds w [(w5.heap.size, 70, b.cells.toArray), (g, 112, (⟨y, n.z⟩ : dJ).cells.toArray), (w.heap.size + 1, 52, Zn), (w.heap.size, 52, n.cells.toArray), (gv, 77, #[.slice Al l.length cl])] w6 from H5.out.put o6 b6)
     have O6 := qh ((O5.out.from ((Below.refl _ _).alloc (Nat.le_refl _) _)).only o6 (ax.new w5 70 Zk) ⟨by decide, by decide, by decide, by decide, by decide, by decide⟩)
     have I6 := qh ((show b.In w5 w5.heap.size from IB.out.AJ).on E6.out (Nat.le_refl _))
     clear o6 b6 H5 O5 IB E6)
  | ((with_reducible refine az 12 ?_); refine fe.af rfl (.tmp 12) rfl w5.heap.size 0 rfl b (au.ah (H6.out.b (w5.heap.size) (70) (b.cells.toArray) (by simp))) ?_)
  | (go_at_fn 51; refine (FC.out g y b _ YV.out BV.out (H6.out.b (g) (112) ((⟨y, n.z⟩ : dJ).cells.toArray) (by simp)) (H6.out.b (gv) (77) (#[.slice Al l.length cl]) (by simp)) O6.out.AJ I6.out H6.out.below).mono ?_; rintro e w7 ⟨rfl, u, hu, k7, o7, p7⟩
     have UV := qh hu
     have K7 := qh k7
     have O7 := qh (o7.mono H6.out.below.size)
     have H7 := qh (show Holds w [(w.heap.size + 1, 52, Zn), (w.heap.size, 52, n.cells.toArray), (gv, 77, #[.slice Al l.length cl])] w7 from (H6.out.os (L' := [(w.heap.size + 1, 52, Zn), (w.heap.size, 52, n.cells.toArray), (gv, 77, #[.slice Al l.length cl])])).Ec p7 (by have := G2.out; omega) (fun x hx => by
      have := G2.out
      have := GV.out
      simp only [List.mem_cons, List.not_mem_nil, or_false] at hx
      rcases hx with rfl | rfl | rfl <;> simp only <;> omega))
     clear hu k7 o7 p7 H6 O6 I6)
  | ((with_reducible refine az 10 ?_); refine BJ.af rfl (.tmp 10) rfl g 0 rfl (⟨u, n.z⟩ : dJ) (au.ah K7.out) ?_))
 refine (NI (⟨u, n.z⟩ : dJ) _).mono ?_
 rintro e w8 ⟨rfl, b8⟩
 have H8 := qh (H7.out.call b8)
 have O8 := qh (O7.out.from b8)
 clear b8 H7 O7
 go_wp2_with (first
  | ((with_reducible refine ag 8 34 ?_); refine lF.aj rfl (.tmp 8) (.tmp 34) rfl rfl (w.heap.size + 1) (⟨u, n.z⟩ : dJ) rfl rfl 52 _ (H8.out.b (w.heap.size + 1) (52) (Zn) (by simp)) (by rw [HS.out.1]) ?_; intro w9 o9 b9))
 exact bodyPost_ret (bn rfl _ _ (w.heap.size + 1) 52 _ (0, 0) _ rfl b9 Tryz.underlying52 rfl (by rw [lF.arr]; kernel_rfl)) rfl ⟨u, UV.out, rfl, O8.out.only o9 (H8.out.b (w.heap.size + 1) (52) (Zn) (by simp)) oD, H8.out.below.trans (o9.below (by simp))⟩
theorem Lb (n : dJ) (s : List UInt8) (B : bK) (Al : Option Addr) (cl : Nat) (l : List rM) (v : CV) (k : Nat) (w : World) (hd : n.d.In w w.heap.size) (hs : s.length ≤ 1000000) (hdec : jy s = .ok B) (hl : aK gu 34 w w.heap.size Al cl l) (hR : aM w) (hp : iI k n.d.V) (hB : kJ B) (hk : k + 14 ≤ 300) (hm : l.length ≤ 1500) (hv : kH n.d.V B l = .ok v) (hc : ∃ T : dX, B.bG = [T] ∧ T.av = []) :
 Calls Tryz.prog 27 #[.agg n.cells.toArray, .string ⟨s.toArray⟩, .slice Al l.length cl] w fun e w' => ∃ u : CA, u.V = v ∧ e = .returned (.tuple #[.agg (⟨u, n.z⟩ : dJ).cells.toArray, .int .i64 0]) ∧ nC w.heap.size w' u ∧ Below w.heap.size w w' := by
 obtain ⟨Zn, Yi, XQ, Ew, XP⟩ := bB jF jf
 have HS := qh Ew
 have H0 := qh (show Holds w [(w.heap.size + 2, 52, Zn), (w.heap.size + 1, 77, #[.slice Al l.length cl]), (w.heap.size, 52, n.cells.toArray)] (((w.alloc (.cells n.cells.toArray 52)).alloc (.cells #[.slice Al l.length cl] 77)).alloc (.cells Zn 52)) from by
  have := (((Holds.nil w).box 52 n.cells.toArray).box 77 #[.slice Al l.length cl]).box 52 Zn
  simpa only [World.size_alloc, Nat.add_assoc] using this)
 have TR := qh (fun (gv : Nat) V (hb : Below w.heap.size w V) (h2 : ax V gv 77 #[.slice Al l.length cl]) => Rc gv n s B Al cl l v k V h2 ((hd.below hb).more hb.size) hs hdec ((hl.below hb).more hb.size) (aM.below hR hb (aM.sH hR) (aM.qL hR)) hp hB hk hm hv hc)
 clear hc hd hs hdec hl hR hp hB hk hm hv Yi Ew
 go_enter Tryz.func27, Tryz.ntmps27
 go_wp2_with (first
  | ((with_reducible refine az 3 ?_); refine lF.af rfl (.tmp 3) rfl w.heap.size 0 rfl n (au.ah (H0.out.b (w.heap.size) (52) (n.cells.toArray) (by simp))) ?_))
 refine (TR.out _ _ H0.out.below (H0.out.b (w.heap.size + 1) (77) (#[.slice Al l.length cl]) (by simp))).mono ?_
 rintro e w1 ⟨u, hu, rfl, o1, b1⟩
 have UV := qh hu
 have O1 := qh (o1.mono H0.out.below.size)
 have H1 := qh (H0.out.call b1)
 clear hu o1 b1 H0 TR
 go_wp2_with (first
  | ((with_reducible refine ag 6 12 ?_); refine lF.aj rfl (.tmp 6) (.tmp 12) rfl rfl (w.heap.size + 2) (⟨u, n.z⟩ : dJ) rfl rfl 52 _ (H1.out.b (w.heap.size + 2) (52) (Zn) (by simp)) (by rw [HS.out]) ?_; intro w2 o2 b2))
 exact bodyPost_ret (bn rfl _ _ (w.heap.size + 2) 52 _ (0, 0) _ rfl b2 Tryz.underlying52 rfl (by rw [lF.arr]; kernel_rfl)) rfl ⟨u, UV.out, rfl, O1.out.only o2 (H1.out.b (w.heap.size + 2) (52) (Zn) (by simp)) oD, H1.out.below.trans (o2.below (by simp))⟩
end
section
open Go.RowKit
theorem GA (z : aQ .u32) (k : aS) (v : aQ .i64) : gP (dN z k v) = 1 := by
 show wrap64 (wrap64 ((1 : Int) + (0 : Nat)) + (0 : Nat)) = 1
 decide +kernel
theorem SF (z : aQ .u32) (k : aS) (v : aQ .i64) : ∃ q : aS, wC (dN z k v) = (q, 0) := by
 rcases vO (dN z k v) with ⟨_, _, h⟩ | ⟨er, h0, h1, _⟩
 ·exact ⟨_, h⟩
 ·rw [xA _ (kX z k v)] at h1
  exact absurd (congrArg Prod.snd h1).symm h0
theorem VA (a : aY) (id : aS) (w : World) (ha : a.In w w.heap.size) (hid : wC a.T = (id, 0)) (hv : Mg (gP a.T)) (hR : aM w) :
 Calls Tryz.prog 54 #[.agg a.cells.toArray] w fun e w' => ∃ A c, e = .returned (.slice A (jq id (gP a.T)).length c) ∧ aK gu 34 w' w'.heap.size A c (jq id (gP a.T)) ∧ Below w.heap.size w w' := by
 have H0 := qh (show Holds w [(w.heap.size, 92, a.cells.toArray)] (w.alloc (.cells a.cells.toArray 92)) from (Holds.nil w).box 92 a.cells.toArray)
 have IN := qh (show ∀ V, Below w.heap.size w V → a.In V V.heap.size from fun V hb => (ha.below hb).more hb.size)
 have XI := qh (show ∀ V, Below w.heap.size w V → Calls Tryz.prog 95 #[.agg a.cells.toArray] V fun e w' => e = .returned (.tuple #[.agg (ak id).toArray, .int .i64 0]) ∧ Below V.heap.size V w' from fun V hb => by
  have h := Ph a V ((ha.below hb).more hb.size) (aM.below hR hb (aM.sH hR) (aM.qL hR))
  rw [hid] at h
  exact h)
 have IT := qh (fun V (hb : Below w.heap.size w V) => Nt a V ((ha.below hb).more hb.size))
 have GO := qh (fun V => Sc id (gP a.T) V hv)
 obtain ⟨z, hz⟩ : ∃ z, gP a.T = z := ⟨_, rfl⟩
 rw [hz] at IT GO ⊢
 clear ha hR hid hv hz
 go_enter Tryz.func54, Tryz.ntmps54
 go_wp2_with (first
  | ((with_reducible refine az 1 ?_); refine di.af rfl (.tmp 1) rfl w.heap.size 0 rfl a (au.ah (H0.out.b (w.heap.size) (92) (a.cells.toArray) (by simp))) ?_))
 refine (XI.out _ H0.out.below).mono ?_
 rintro e w1 ⟨rfl, b1⟩
 have H1 := qh (H0.out.call b1)
 clear b1 H0 XI
 go_wp2_with (first
  | ((with_reducible refine ag 3 8 ?_); refine bL.aj rfl (.tmp 3) (.tmp 8) rfl rfl w1.heap.size id rfl rfl 26 _ (ax.new w1 26 _) rfl ?_; intro w2 o2 b2
     have H2 := qh (show Holds w [(w1.heap.size, 26, (ak id).toArray), (w.heap.size, 92, a.cells.toArray)] w2 from H1.out.put o2 b2)
     clear o2 b2 H1))
 obtain ⟨g, hg⟩ : ∃ g, w1.heap.size = g := ⟨_, rfl⟩
 rw [hg] at H2 ⊢
 clear hg
 refine wp_region_held_drew (S := Holds w [(g, 26, (ak id).toArray), (w.heap.size, 92, a.cells.toArray)]) (by kernel_rfl) (H2.out.call (Below.refl _ _).drew) ?_
 intro hS
 clear H2
 refine tk 0 (.agg (ak id).toArray) rfl (bL.aB (by rfl) (.tmp 3) rfl g 0 rfl id (fun _ h => au.ah (h.b (g) (26) ((ak id).toArray) (by simp)))) hS ?_
 go_simp
 refine tk 1 (.agg a.cells.toArray) rfl (di.aB (by rfl) (.tmp 1) rfl w.heap.size 0 rfl a (fun _ h => au.ah (h.b (w.heap.size) (92) (a.cells.toArray) (by simp)))) hS ?_
 go_simp
 refine rd 2 rfl (fun Kq hK => ?_)
 go_simp
 with_reducible refine (IT.out _ hS.below).mono ?_
 rintro e x1 ⟨rfl, bq⟩
 refine hK.out _ _ (hS.call bq) (fun hS => ?_)
 clear hK Kq bq
 go_simp
 refine rd 3 rfl (fun Kq hK => ?_)
 go_simp
 with_reducible refine (GO.out _).mono ?_
 rintro e x2 ⟨A, c, rfl, r2, bq⟩
 have R2 := qh r2
 have H3 := qh (hS.call bq)
 refine hK.out _ _ H3.out (fun hS => ?_)
 clear hK Kq bq r2
 go_simp
 refine tkp 4 (.slice A (jq id z).length c) rfl hS ?_
 go_simp
 refine wpAnyH_done (by kernel_rfl) ?_ _
 go_wp2_with fail
 go_ret
 exact ⟨A, c, rfl, R2.out, H3.out.below⟩
theorem Tg (A : Option Addr) (c : Nat) (a : aY) (id : aS) (w : World) (hb : mR w w.heap.size A c [a]) (hid : wC a.T = (id, 0)) (hv : Mg (gP a.T)) (hR : aM w) :
 Calls Tryz.prog 28 #[.slice A 1 c] w fun e w' => ∃ A' c', e = .returned (.slice A' (jq id (gP a.T)).length c') ∧ aK gu 34 w' w'.heap.size A' c' (jq id (gP a.T)) ∧ Below w.heap.size w w' := by
 obtain ⟨g, o, rfl, hg, hc⟩ := hb.row.at aY.len (i := 0) (by simp)
 have RC := qh (show ∀ V, Below w.heap.size w V → au V g (o + 0 * 38) a.cells from fun V h => hc.below h hg)
 have GO := qh (show ∀ V, Below w.heap.size w V → Calls Tryz.prog 54 #[.agg a.cells.toArray] V fun e w' => ∃ A c, e = .returned (.slice A (jq id (gP a.T)).length c) ∧ aK gu 34 w' w'.heap.size A c (jq id (gP a.T)) ∧ Below V.heap.size V w' from fun V h => VA a id V (((hb.each a (by simp)).below h).more h.size) hid hv (aM.below hR h (aM.sH hR) (aM.qL hR)))
 obtain ⟨G, hG⟩ : ∃ G, jq id (gP a.T) = G := ⟨_, rfl⟩
 have GL := qh (show G.length ≤ 1000 from hG ▸ uJ id _)
 rw [hG] at GO ⊢
 have E0 := qh (show Below w.heap.size w (w.alloc (.cells #[] 243)) from (Below.refl _ _).alloc (Nat.le_refl _) _)
 have O0 := qh (show World.ownsRow (w.alloc (.cells #[] 243)) w.heap.size 243 34 (.slice (some ⟨w.heap.size, 0, none⟩) 0 0) ([] : List rM).length (cellsOf gu []) from Dj (ax.new w 243 #[]) (Nat.le_refl _))
 clear hb hg hc hid hv hR hG
 go_enter Tryz.func28, Tryz.ntmps28
 go_wp2_with fail
 refine wp_loop_rounds 2 ?_
 rw [rounds_succ]
 go_wp2_with (first
  | ((with_reducible refine az 15 ?_); refine di.af rfl (.tmp 15) rfl g (o + 0 * 38) rfl a (RC.out _ E0.out) ?_))
 refine (GO.out _ E0.out).mono ?_
 rintro e w1 ⟨A1, c1, rfl, r1, b1⟩
 have R1 := qh r1
 have E1 := qh (E0.out.trans (b1.mono E0.out.size))
 have O1 := qh (aL O0.out b1)
 clear r1 b1 E0 O0 GO
 go_wp2_with (first
  | ((with_reducible refine lY 18 12 17 ?_); refine U3.j3 rfl ZV 48 ZX (by omega) (.tmp 12) (.tmp 17) rfl w.heap.size _ ([] : List rM) rfl O1.out _ A1 c1 G rfl R1.out (by have := GL.out; simp; omega) E1.out.size ?_; intro v2 w2 p2 q2
     have E2 := qh (E1.out.trans (FU O1.out q2 E1.out.size))
     obtain ⟨A2, c2, rfl, r2⟩ := aK.fO Bd p2
     have R2 := qh (show aK gu 34 w2 w2.heap.size A2 c2 G from r2)
     clear p2 q2 r2 O1 R1))
 rw [rounds_succ]
 go_wp2_with fail
 go_ret
 exact ⟨A2, c2, rfl, R2.out, E2.out⟩
end
section
open Go.RowKit
def n0 : aQ .u32 := ⟨0, by decide⟩
theorem Kj (c : C0) (k : aS) (n : aQ .u32) : kJ (pG c k n) := ⟨by show 1 ≤ 7; decide, fun T hT => by
 have h : T ∈ [dN (sU c.h) k vS] := hT
 rw [List.mem_singleton] at h
 subst h
 exact ⟨by show 1 ≤ 2; decide, rfl, by show 0 ≤ 1; decide, by show 0 ≤ 1; decide⟩⟩
theorem yF (c : C0) (k : aS) (n : aQ .u32) : pI (pG c k n) := ⟨by show 0 < 1; decide, by show 1 ≤ 30; decide, fun T hT => by
 have h : T ∈ [dN (sU c.h) k vS] := hT
 rw [List.mem_singleton] at h
 subst h
 exact kX _ _ _⟩
theorem Oz (c : C0) (k : aS) (n : aQ .u32) : (nu (pG c k n)).length ≤ 1000000 := by
 rw [zl _ (yF c k n)]
 show 69 + ((vz (dN (sU c.h) k vS)).length + 0) ≤ 1000000
 rw [tK _ (kX _ _ _)]
 show 69 + (4 + 1 + 36 * 1 + 1 + 40 * 1 + 1 + 32 * 0 + 1 + 32 * 0 + 8 + _ + 0) ≤ 1000000
 split <;> omega
theorem Vm (n : dJ) (k : Nat) (v : CV) (w : World) (hd : n.d.In w w.heap.size) (hp : iI k n.d.V) (hk : k + 14 ≤ 300) (hR : aM w) (hv : ∀ l, kH n.d.V (pG n.d.c.C ai n0) l = .ok v) :
 Calls Tryz.prog 12 #[.agg n.cells.toArray, .int .i64 1, .slice none 0 0] w fun e w' => ∃ u : CA, u.V = v ∧ e = .returned (.tuple #[.agg (⟨u, n.z⟩ : dJ).cells.toArray, .bool true]) ∧ nC w.heap.size w' u ∧ Below w.heap.size w w' := by
 obtain ⟨Zn, Yi, XQ, Ew, XP⟩ := bB jF jf
 obtain ⟨Zk, hZk, aak, Pn, aaj⟩ := bB (show ((Tryz.prog.info? 70).bind (·.zero)) = some (.agg bZ.cells.toArray) by kernel_rfl) uU
 have HS := qh (And.intro Ew Pn)
 have H0 := qh (show Holds w [(w.heap.size + 1, 52, Zn), (w.heap.size, 52, n.cells.toArray)] ((w.alloc (.cells n.cells.toArray 52)).alloc (.cells Zn 52)) from by
  have := ((Holds.nil w).box 52 n.cells.toArray).box 52 Zn
  simpa only [World.size_alloc] using this)
 obtain ⟨C, hC⟩ : ∃ C, pG n.d.c.C ai n0 = C := ⟨_, rfl⟩
 have RO := qh (show ∀ V, Below w.heap.size w V → aM V from fun _ hb => aM.below hR hb (aM.sH hR) (aM.qL hR))
 have BU := qh (show ∀ V, Below w.heap.size w V → Calls Tryz.prog 25 #[.agg n.d.cells.toArray, .agg (aA n.z).toArray, .agg (ak ai).toArray, .int .u32 0, .slice none 0 0] V fun e w' => ∃ b : bF, b.B = C ∧ e = .returned (.tuple #[.agg b.cells.toArray, .int .i64 0]) ∧ uZ V.heap.size w' b ∧ Below V.heap.size V w' from fun V hb => hC ▸ TD n.d n.z ai n0 V ((hd.c.below hb).more hb.size) (hp.Co (by omega)) (aM.below hR hb (aM.sH hR) (aM.qL hR)))
 have CE := qh (show gX C = (nu C, 0) from hC ▸ za _ (yF _ _ _))
 have CO := qh (show ∀ (A : Option Addr) (c : Nat) (G : List rM) (V : World), Below w.heap.size w V → aK gu 34 V V.heap.size A c G → G.length ≤ 1500 → Calls Tryz.prog 27 #[.agg n.cells.toArray, .string ⟨(nu C).toArray⟩, .slice A G.length c] V fun e w' => ∃ u : CA, u.V = v ∧ e = .returned (.tuple #[.agg (⟨u, n.z⟩ : dJ).cells.toArray, .int .i64 0]) ∧ nC V.heap.size w' u ∧ Below V.heap.size V w' from fun A c G V hb hr hl => Lb n (nu C) C A c G v k V ((hd.below hb).more hb.size) (hC ▸ Oz _ _ _) (hC ▸ Ho _ (yF _ _ _)) hr (aM.below hR hb (aM.sH hR) (aM.qL hR)) hp (hC ▸ Kj _ _ _) hk hl (hC ▸ hv G) (by rw [← hC]; exact ⟨_, rfl, rfl⟩))
 have CT := qh (show C.bG = [dN (sU n.d.c.C.h) ai vS] from hC ▸ rfl)
 clear hd hp hk hR hv Yi hZk Ew Pn hC
 go_enter Tryz.func12, Tryz.ntmps12
 go_wp2_with fail
 refine wp_loop_rounds 2 ?_
 rw [rounds_succ]
 go_wp2_with (first
  | ((with_reducible refine az 21 ?_); refine cO.af rfl (.tmp 21) rfl w.heap.size 0 rfl n.d (dJ.chain (au.ah (H0.out.b (w.heap.size) (52) (n.cells.toArray) (by simp)))) ?_)
  | ((with_reducible refine az 23 ?_); refine j5.af rfl (.tmp 23) rfl w.heap.size 1063 rfl n.z (dJ.pool (au.ah (H0.out.b (w.heap.size) (52) (n.cells.toArray) (by simp)))) ?_)
  | ((with_reducible refine bW 27 ?_); refine bu rfl 26 #[(0, .tmp 26)] rfl (ak ai).toArray (by kernel_rfl) ?_))
 refine (BU.out _ H0.out.below).mono ?_
 rintro e w1 ⟨b, hb, rfl, o1, b1⟩
 have BV := qh hb
 have H1 := qh (H0.out.call b1)
 have O1 := qh (o1.mono H0.out.below.size)
 clear hb o1 b1 H0 BU
 obtain ⟨a, hta, hT⟩ : ∃ a : aY, b.bG = [a] ∧ a.T = dN (sU n.d.c.C.h) ai vS := by
  have h : b.bG.map aY.T = [dN (sU n.d.c.C.h) ai vS] := by
   rw [← CT.out, ← BV.out]
   rfl
  cases hx : b.bG with
  | nil => rw [hx] at h; have h2 := congrArg List.length h; simp at h2
  | cons a r => cases r with
   | nil => rw [hx] at h; exact ⟨a, rfl, (List.cons.inj h).1⟩
   | cons a2 r2 => rw [hx] at h; have h2 := congrArg List.length h; simp at h2
 obtain ⟨id, hid⟩ := SF (sU n.d.c.C.h) ai vS
 rw [← hT] at hid
 have TA := qh (And.intro hta (And.intro hT hid))
 clear hta hT hid
 go_wp2_with (first
  | ((with_reducible refine ag 9 32 ?_); refine fe.aj rfl (.tmp 9) (.tmp 32) rfl rfl w1.heap.size b rfl rfl 70 _ (ax.new w1 70 Zk) (by rw [HS.out.2]) ?_; intro w2 o2 b2
     have H2 := qh (show Holds w [(w1.heap.size, 70, b.cells.toArray), (w.heap.size + 1, 52, Zn), (w.heap.size, 52, n.cells.toArray)] w2 from H1.out.put o2 b2)
     have O2 := qh ((O1.out.from ((Below.refl _ _).alloc (Nat.le_refl _) _)).only o2 (ax.new w1 70 Zk) (by decide) (by decide) (by decide) (by decide))
     clear o2 b2 H1 O1)
  | ((with_reducible refine az 9 ?_); refine fe.af rfl (.tmp 9) rfl w1.heap.size 0 rfl b (au.ah (H2.out.b (w1.heap.size) (70) (b.cells.toArray) (by simp))) ?_))
 obtain ⟨g9, hg9⟩ : ∃ g, w1.heap.size = g := ⟨_, rfl⟩
 rw [hg9] at H2 ⊢
 clear hg9
 have XE := qh (show ∀ V, b.In V V.heap.size → Calls Tryz.prog 26 #[.agg b.cells.toArray] V fun e w' => e = .returned (.tuple #[.string ⟨(nu C).toArray⟩, .int .i64 0]) ∧ Below V.heap.size V w' from fun V h => by
  have h2 := FE b V h (by rw [TA.out.1]; exact Nat.le_of_ble_eq_true rfl)
  rw [BV.out, CE.out] at h2
  exact h2)
 refine (XE.out _ O2.out.AJ).mono ?_
 rintro e w3 ⟨rfl, b3⟩
 have H3 := qh (H2.out.call b3)
 have O3 := qh (O2.out.from b3)
 clear b3 H2 O2 XE
 have XG := qh (show ∀ V, uZ w.heap.size V b → Below w.heap.size w V → Calls Tryz.prog 28 #[.slice b.A 1 b.c] V fun e w' => ∃ A' c', e = .returned (.slice A' (jq id (gP a.T)).length c') ∧ aK gu 34 w' w'.heap.size A' c' (jq id (gP a.T)) ∧ Below V.heap.size V w' from fun V h hb => Tg b.A b.c a id V (TA.out.1 ▸ h.AJ) TA.out.2.2 (by rw [TA.out.2.1, GA]; exact ⟨by decide, by decide⟩) (RO.out V hb))
 obtain ⟨G, hG⟩ : ∃ G, jq id (gP a.T) = G := ⟨_, rfl⟩
 have GL := qh (show G.length ≤ 1500 from by have := uJ id (gP a.T); rw [hG] at this; omega)
 rw [hG] at XG
 clear hG
 go_wp2_with fail
 go_cut [13, 14] from 42 to 51 (fun v13 v14 wc => ∃ (g13 : Nat) (u : CA), v13 = .pointer (some ⟨g13, 0, none⟩) ∧ v14 = .int .i64 0 ∧ Hid (u.V = v) ∧ Hid (Holds w [(g13, 52, (⟨u, n.z⟩ : dJ).cells.toArray), (w.heap.size + 1, 52, Zn), (w.heap.size, 52, n.cells.toArray)] wc) ∧ Hid (nC w.heap.size wc u))
 case first =>
  refine wp_region_held_drew (S := Holds w [(g9, 70, b.cells.toArray), (w.heap.size + 1, 52, Zn), (w.heap.size, 52, n.cells.toArray)]) (by kernel_rfl) (H3.out.call (Below.refl _ _).drew) ?_
  intro hS
  have HH := qh hS
  have BO := qh (O3.out.from (Below.refl _ _).drew)
  clear H3 O3
  generalize World.drew _ = wd at hS HH BO ⊢
  have LW := qh (show w.heap.size + 1 < wd.heap.size from (HH.out.b (w.heap.size + 1) (52) Zn (by simp)).lt)
  have DD := qh (Nat.le_refl wd.heap.size)
  refine tk 0 (.agg n.cells.toArray) rfl (lF.aB (by rfl) (.tmp 3) rfl w.heap.size 0 rfl n (fun _ h => au.ah (h.b (w.heap.size) (52) (n.cells.toArray) (by simp)))) hS ?_
  go_simp
  refine tkp 1 (.string ⟨(nu C).toArray⟩) rfl hS ?_
  go_simp
  refine tkp 2 (.pointer (some ⟨g9, 65, none⟩)) rfl hS ?_
  go_simp
  refine tk 3 (.slice b.A 1 b.c) rfl (bJ (by rfl) 68 (.tmp 45) rfl ⟨g9, 65, none⟩ rfl _ Tryz.isAgg68 (fun _ h => by have := bF.c3 (au.ah (h.b (g9) (70) (b.cells.toArray) (by simp))); rw [TA.out.1] at this; exact this)) hS ?_
  go_simp
  refine rd2 4 9 rfl (fun Kq hK => ?_) rfl (fun Kq hK => ?_)
  ·go_simp
   with_reducible refine (XG.out _ BO.out HH.out.below).mono ?_
   rintro e x1 ⟨A4, c4, rfl, r4, bq⟩
   have RG := qh r4
   have HN := qh (HH.out.call bq)
   have DN := qh (Nat.le_trans DD.out bq.size)
   clear r4 bq
   refine hK.out _ _ (HN.out.os) (fun hS => ?_)
   clear hK Kq HH
   have HH := HN
   clear HN
   clear DD BO
   have DD := DN
   clear DN
   go_simp
   refine rd2 5 9 rfl (fun Kq hK => ?_) rfl (fun Kq hK => ?_)
   ·go_simp
    with_reducible refine (CO.out A4 c4 G _ HH.out.below RG.out GL.out).mono ?_
    rintro e x2 ⟨u, hu, rfl, oy, bq⟩
    have YV := qh hu
    have YO := qh (oy.mono HH.out.below.size)
    have HN := qh (HH.out.call bq)
    have DN := qh (Nat.le_trans DD.out bq.size)
    clear hu oy bq RG
    refine hK.out _ _ (HN.out.os) (fun hS => ?_)
    clear hK Kq HH
    have HH := HN
    clear HN
    clear DD
    have DD := DN
    clear DN
    go_simp
    refine tkp 6 (.tuple #[.agg (⟨u, n.z⟩ : dJ).cells.toArray, .int .i64 0]) rfl hS ?_
    go_simp
    refine tkp 7 (.agg (⟨u, n.z⟩ : dJ).cells.toArray) rfl hS ?_
    go_simp
    refine tkp 8 (.int .i64 0) rfl hS ?_
    go_simp
    refine rd 9 rfl (fun Kq hK => ?_)
    go_simp
    have HN := qh (show Holds w ((x2.heap.size, 52, Zn) :: [(g9, 70, b.cells.toArray), (w.heap.size + 1, 52, Zn), (w.heap.size, 52, n.cells.toArray)]) (x2.alloc (.cells Zn 52)) from HH.out.box 52 Zn)
    have DN := qh (show wd.heap.size ≤ (x2.alloc (.cells Zn 52)).heap.size by have := DD.out; rw [World.size_alloc]; omega)
    have GM := qh (show g9 ≠ x2.heap.size from Nat.ne_of_lt (HH.out.b g9 (70) (b.cells.toArray) (by simp)).lt)
    have YN := qh (YO.out.from ((Below.refl _ _).alloc (Nat.le_refl _) (.cells Zn 52)))
    clear YO
    have YO := YN
    clear YN
    refine hK.out _ _ (HN.out.os) (fun hS => ?_)
    clear hK Kq HH
    have HH := HN
    clear HN
    obtain ⟨g13, hg, hd, hne⟩ : ∃ g, x2.heap.size = g ∧ wd.heap.size ≤ g ∧ g9 ≠ g := ⟨_, rfl, DD.out, GM.out⟩
    obtain ⟨x3, hV⟩ : ∃ V, x2.alloc (.cells Zn 52) = V := ⟨_, rfl⟩
    rw [hV] at HH DN hS YO ⊢
    clear hV DD
    have DD := DN
    clear DN
    rw [hg] at HH ⊢
    clear hg GM
    have D6 := qh hd
    have GN := qh hne
    clear hd hne
    go_simp
    refine rd 10 rfl (fun Kq hK => ?_)
    refine lF.aH rfl (.tmp 13) (.tmp 49) rfl rfl g13 (⟨u, n.z⟩ : dJ) rfl rfl 52 _ (HH.out.b g13 (52) Zn (by simp)) (by rw [HS.out.1]) ?_
    intro w9 o9 b9
    have H9 := qh (show Holds w [(g13, 52, (⟨u, n.z⟩ : dJ).cells.toArray), (w.heap.size + 1, 52, Zn), (w.heap.size, 52, n.cells.toArray)] w9 from (HH.out.os (L' := (g13, 52, Zn) :: [(w.heap.size + 1, 52, Zn), (w.heap.size, 52, n.cells.toArray)])).turn o9 b9 (by have := D6.out; have := LW.out; omega) (fun x hx => by
     have := D6.out
     have := LW.out
     simp only [List.mem_cons, List.not_mem_nil, or_false] at hx
     rcases hx with rfl | rfl <;> simp only <;> omega))
    have Y9 := qh (YO.out.only o9 (HH.out.b g13 (52) Zn (by simp)) oD)
    have K9 := qh (o9.blk (HH.out.b g9 (70) (b.cells.toArray) (by simp)) (by have := (HH.out.b g9 (70) (b.cells.toArray) (by simp)).lt; have := GN.out; simpa using this))
    refine hK.out _ _ (show Holds w [(g9, 70, b.cells.toArray), (w.heap.size + 1, 52, Zn), (w.heap.size, 52, n.cells.toArray)] w9 from (H9.out.of (L' := [(w.heap.size + 1, 52, Zn), (w.heap.size, 52, n.cells.toArray)]) (fun x hx => List.mem_cons_of_mem _ hx)).more K9.out) (fun hS => ?_)
    clear hK Kq
    go_simp
    refine tkp 11 (.int .i64 0) rfl hS ?_
    go_simp
    refine wpAnyH_done (by kernel_rfl) ?_ _
    go_wp2_with fail
    go_meet
    exact ⟨g13, u, rfl, rfl, YV, H9, Y9⟩
   ·go_simp
    have HN := qh (show Holds w ((x1.heap.size, 52, Zn) :: [(g9, 70, b.cells.toArray), (w.heap.size + 1, 52, Zn), (w.heap.size, 52, n.cells.toArray)]) (x1.alloc (.cells Zn 52)) from HH.out.box 52 Zn)
    have DN := qh (show wd.heap.size ≤ (x1.alloc (.cells Zn 52)).heap.size by have := DD.out; rw [World.size_alloc]; omega)
    have GM := qh (show g9 ≠ x1.heap.size from Nat.ne_of_lt (HH.out.b g9 (70) (b.cells.toArray) (by simp)).lt)
    have RN := qh (show aK gu 34 (x1.alloc (.cells Zn 52)) (x1.alloc (.cells Zn 52)).heap.size A4 c4 G from (RG.out.below ((Below.refl _ _).alloc (Nat.le_refl _) _)).more (by rw [World.size_alloc]; omega))
    clear RG
    have RG := RN
    clear RN
    refine hK.out _ _ (HN.out.os) (fun hS => ?_)
    clear hK Kq HH
    have HH := HN
    clear HN
    obtain ⟨g13, hg, hd, hne⟩ : ∃ g, x1.heap.size = g ∧ wd.heap.size ≤ g ∧ g9 ≠ g := ⟨_, rfl, DD.out, GM.out⟩
    obtain ⟨x2, hV⟩ : ∃ V, x1.alloc (.cells Zn 52) = V := ⟨_, rfl⟩
    rw [hV] at HH DN hS RG ⊢
    clear hV DD
    have DD := DN
    clear DN
    rw [hg] at HH ⊢
    clear hg GM
    have D6 := qh hd
    have GN := qh hne
    clear hd hne
    go_simp
    refine rd 5 rfl (fun Kq hK => ?_)
    go_simp
    with_reducible refine (CO.out A4 c4 G _ HH.out.below RG.out GL.out).mono ?_
    rintro e x3 ⟨u, hu, rfl, oy, bq⟩
    have YV := qh hu
    have YO := qh (oy.mono HH.out.below.size)
    have HN := qh (HH.out.call bq)
    have DN := qh (Nat.le_trans DD.out bq.size)
    clear hu oy bq RG
    refine hK.out _ _ (HN.out.os) (fun hS => ?_)
    clear hK Kq HH
    have HH := HN
    clear HN
    clear DD
    have DD := DN
    clear DN
    go_simp
    refine tkp 6 (.tuple #[.agg (⟨u, n.z⟩ : dJ).cells.toArray, .int .i64 0]) rfl hS ?_
    go_simp
    refine tkp 7 (.agg (⟨u, n.z⟩ : dJ).cells.toArray) rfl hS ?_
    go_simp
    refine tkp 8 (.int .i64 0) rfl hS ?_
    go_simp
    refine rd 10 rfl (fun Kq hK => ?_)
    refine lF.aH rfl (.tmp 13) (.tmp 49) rfl rfl g13 (⟨u, n.z⟩ : dJ) rfl rfl 52 _ (HH.out.b g13 (52) Zn (by simp)) (by rw [HS.out.1]) ?_
    intro w9 o9 b9
    have H9 := qh (show Holds w [(g13, 52, (⟨u, n.z⟩ : dJ).cells.toArray), (w.heap.size + 1, 52, Zn), (w.heap.size, 52, n.cells.toArray)] w9 from (HH.out.os (L' := (g13, 52, Zn) :: [(w.heap.size + 1, 52, Zn), (w.heap.size, 52, n.cells.toArray)])).turn o9 b9 (by have := D6.out; have := LW.out; omega) (fun x hx => by
     have := D6.out
     have := LW.out
     simp only [List.mem_cons, List.not_mem_nil, or_false] at hx
     rcases hx with rfl | rfl <;> simp only <;> omega))
    have Y9 := qh (YO.out.only o9 (HH.out.b g13 (52) Zn (by simp)) oD)
    have K9 := qh (o9.blk (HH.out.b g9 (70) (b.cells.toArray) (by simp)) (by have := (HH.out.b g9 (70) (b.cells.toArray) (by simp)).lt; have := GN.out; simpa using this))
    refine hK.out _ _ (show Holds w [(g9, 70, b.cells.toArray), (w.heap.size + 1, 52, Zn), (w.heap.size, 52, n.cells.toArray)] w9 from (H9.out.of (L' := [(w.heap.size + 1, 52, Zn), (w.heap.size, 52, n.cells.toArray)]) (fun x hx => List.mem_cons_of_mem _ hx)).more K9.out) (fun hS => ?_)
    clear hK Kq
    go_simp
    refine tkp 11 (.int .i64 0) rfl hS ?_
    go_simp
    refine wpAnyH_done (by kernel_rfl) ?_ _
    go_wp2_with fail
    go_meet
    exact ⟨g13, u, rfl, rfl, YV, H9, Y9⟩
  ·go_simp
   have HN := qh (show Holds w ((wd.heap.size, 52, Zn) :: [(g9, 70, b.cells.toArray), (w.heap.size + 1, 52, Zn), (w.heap.size, 52, n.cells.toArray)]) (wd.alloc (.cells Zn 52)) from HH.out.box 52 Zn)
   have DN := qh (show wd.heap.size ≤ (wd.alloc (.cells Zn 52)).heap.size by have := DD.out; rw [World.size_alloc]; omega)
   have GM := qh (show g9 ≠ wd.heap.size from Nat.ne_of_lt (HH.out.b g9 (70) (b.cells.toArray) (by simp)).lt)
   have BN := qh (BO.out.from ((Below.refl _ _).alloc (Nat.le_refl _) (.cells Zn 52)))
   clear BO
   have BO := BN
   clear BN
   refine hK.out _ _ (HN.out.os) (fun hS => ?_)
   clear hK Kq HH
   have HH := HN
   clear HN
   obtain ⟨g13, hg, hd, hne⟩ : ∃ g, wd.heap.size = g ∧ wd.heap.size ≤ g ∧ g9 ≠ g := ⟨_, rfl, DD.out, GM.out⟩
   obtain ⟨x1, hV⟩ : ∃ V, wd.alloc (.cells Zn 52) = V := ⟨_, rfl⟩
   rw [hV] at HH DN hS BO ⊢
   clear hV DD
   have DD := DN
   clear DN
   rw [hg] at HH ⊢
   clear hg GM
   have D6 := qh hd
   have GN := qh hne
   clear hd hne
   go_simp
   refine rd 4 rfl (fun Kq hK => ?_)
   go_simp
   with_reducible refine (XG.out _ BO.out HH.out.below).mono ?_
   rintro e x2 ⟨A4, c4, rfl, r4, bq⟩
   have RG := qh r4
   have HN := qh (HH.out.call bq)
   have DN := qh (Nat.le_trans DD.out bq.size)
   clear r4 bq
   refine hK.out _ _ (HN.out.os) (fun hS => ?_)
   clear hK Kq HH
   have HH := HN
   clear HN
   clear DD BO
   have DD := DN
   clear DN
   go_simp
   refine rd 5 rfl (fun Kq hK => ?_)
   go_simp
   with_reducible refine (CO.out A4 c4 G _ HH.out.below RG.out GL.out).mono ?_
   rintro e x3 ⟨u, hu, rfl, oy, bq⟩
   have YV := qh hu
   have YO := qh (oy.mono HH.out.below.size)
   have HN := qh (HH.out.call bq)
   have DN := qh (Nat.le_trans DD.out bq.size)
   clear hu oy bq RG
   refine hK.out _ _ (HN.out.os) (fun hS => ?_)
   clear hK Kq HH
   have HH := HN
   clear HN
   clear DD
   have DD := DN
   clear DN
   go_simp
   refine tkp 6 (.tuple #[.agg (⟨u, n.z⟩ : dJ).cells.toArray, .int .i64 0]) rfl hS ?_
   go_simp
   refine tkp 7 (.agg (⟨u, n.z⟩ : dJ).cells.toArray) rfl hS ?_
   go_simp
   refine tkp 8 (.int .i64 0) rfl hS ?_
   go_simp
   refine rd 10 rfl (fun Kq hK => ?_)
   refine lF.aH rfl (.tmp 13) (.tmp 49) rfl rfl g13 (⟨u, n.z⟩ : dJ) rfl rfl 52 _ (HH.out.b g13 (52) Zn (by simp)) (by rw [HS.out.1]) ?_
   intro w9 o9 b9
   have H9 := qh (show Holds w [(g13, 52, (⟨u, n.z⟩ : dJ).cells.toArray), (w.heap.size + 1, 52, Zn), (w.heap.size, 52, n.cells.toArray)] w9 from (HH.out.os (L' := (g13, 52, Zn) :: [(w.heap.size + 1, 52, Zn), (w.heap.size, 52, n.cells.toArray)])).turn o9 b9 (by have := D6.out; have := LW.out; omega) (fun x hx => by
    have := D6.out
    have := LW.out
    simp only [List.mem_cons, List.not_mem_nil, or_false] at hx
    rcases hx with rfl | rfl <;> simp only <;> omega))
   have Y9 := qh (YO.out.only o9 (HH.out.b g13 (52) Zn (by simp)) oD)
   have K9 := qh (o9.blk (HH.out.b g9 (70) (b.cells.toArray) (by simp)) (by have := (HH.out.b g9 (70) (b.cells.toArray) (by simp)).lt; have := GN.out; simpa using this))
   refine hK.out _ _ (show Holds w [(g9, 70, b.cells.toArray), (w.heap.size + 1, 52, Zn), (w.heap.size, 52, n.cells.toArray)] w9 from (H9.out.of (L' := [(w.heap.size + 1, 52, Zn), (w.heap.size, 52, n.cells.toArray)]) (fun x hx => List.mem_cons_of_mem _ hx)).more K9.out) (fun hS => ?_)
   clear hK Kq
   go_simp
   refine tkp 11 (.int .i64 0) rfl hS ?_
   go_simp
   refine wpAnyH_done (by kernel_rfl) ?_ _
   go_wp2_with fail
   go_meet
   exact ⟨g13, u, rfl, rfl, YV, H9, Y9⟩
 case rest =>
  obtain ⟨g13, u, rfl, rfl, YV, H4, Y4⟩ := hcut
  clear H3 O3 XG CO
  have GD := qh (show g13 ≠ w.heap.size ∨ True from Or.inr trivial)
  go_wp2_with (first
   | ((with_reducible refine az 13 ?_); refine lF.af rfl (.tmp 13) rfl g13 0 rfl (⟨u, n.z⟩ : dJ) (au.ah (H4.out.b (g13) (52) ((⟨u, n.z⟩ : dJ).cells.toArray) (by simp))) ?_)
   | ((with_reducible refine ag 3 58 ?_); refine lF.aj rfl (.tmp 3) (.tmp 58) rfl rfl w.heap.size (⟨u, n.z⟩ : dJ) rfl rfl 52 _ (H4.out.b (w.heap.size) (52) (n.cells.toArray) (by simp)) (by rw [lF.arr]) ?_; intro w5 o5 b5
      have H5 := qh (show Holds w [(w.heap.size, 52, (⟨u, n.z⟩ : dJ).cells.toArray), (w.heap.size + 1, 52, Zn)] w5 from (H4.out.os (L' := [(w.heap.size, 52, n.cells.toArray), (w.heap.size + 1, 52, Zn)])).turn o5 b5 (Nat.le_refl _) (fun x hx => by
       simp only [List.mem_cons, List.not_mem_nil, or_false] at hx
       subst hx
       simp))
      have Y5 := qh (Y4.out.only o5 (H4.out.b (w.heap.size) (52) (n.cells.toArray) (by simp)) oD)
      clear o5 b5 H4 Y4))
  rw [rounds_succ]
  go_wp2_with (first
   | ((with_reducible refine az 3 ?_); refine lF.af rfl (.tmp 3) rfl w.heap.size 0 rfl (⟨u, n.z⟩ : dJ) (au.ah (H5.out.b (w.heap.size) (52) ((⟨u, n.z⟩ : dJ).cells.toArray) (by simp))) ?_)
   | ((with_reducible refine ag 6 59 ?_); refine lF.aj rfl (.tmp 6) (.tmp 59) rfl rfl (w.heap.size + 1) (⟨u, n.z⟩ : dJ) rfl rfl 52 _ (H5.out.b (w.heap.size + 1) (52) (Zn) (by simp)) (by rw [HS.out.1]) ?_; intro w6 o6 b6))
  exact bodyPost_ret (bn rfl _ _ (w.heap.size + 1) 52 _ (0, 0) _ rfl b6 Tryz.underlying52 rfl (by rw [lF.arr]; kernel_rfl)) rfl ⟨u, YV.out, rfl, Y5.out.only o6 (H5.out.b (w.heap.size + 1) (52) (Zn) (by simp)) oD, H5.out.below.trans (o6.below (by simp))⟩
end
section
def fv {α : Type} (x : BitVec 32) (f : BitVec 32 → α) : α := Nat.casesOn (motive := fun _ => α) x.toNat (f 0#32) (fun m => f (BitVec.ofNat 32 (m + 1)))
theorem I5 {α : Type} (x : BitVec 32) (f : BitVec 32 → α) : fv x f = f x := by
 have h : BitVec.ofNat 32 x.toNat = x := by simp
 unfold fv
 generalize x.toNat = n at h
 cases n with
 | zero => rw [← h]; rfl
 | succ m => rw [← h]
def Rz {α : Type} (K : Nat → BitVec 32) : Nat → Nat → St → (St → α) → α
 | 0, _, s, k => k s
 | n + 1, i, s, k => fv (ring s.w i (i % 16)) fun x => fv (T1 s.e s.f s.g s.h (K i) x) fun t => fv (t + T2 s.a s.b s.c) fun a => fv (s.d + t) fun e =>
  Rz K n (i + 1) { w := if 16 ≤ i then upd s.w (i % 16) x else s.w, a := a, b := s.a, c := s.b, d := s.c, e := e, f := s.e, g := s.f, h := s.g } k
theorem RA (f : Nat → BitVec 32) (i : Nat) : (if 16 ≤ i then upd f (i % 16) (ring f i (i % 16)) else f) = ring f i := by
 unfold ring
 by_cases h : 16 ≤ i
 ·rw [if_pos h, if_pos h]
  have : upd f (i % 16) (sched f i) (i % 16) = sched f i := by simp [upd]
  rw [this]
 ·rw [if_neg h, if_neg h]
theorem IE {α : Type} (K : Nat → BitVec 32) (s : St) : ∀ (n i : Nat) (k : St → α), Rz K n i (St.run K s i) k = k (St.run K s (i + n))
 | 0, i, k => rfl
 | n + 1, i, k => by
  unfold Rz
  rw [I5, I5, I5, I5, RA]
  have h := IE K s n (i + 1) k
  rw [show i + 1 + n = i + (n + 1) by omega] at h
  rw [← h]
  rfl
theorem Yp (K w h : Nat → BitVec 32) : dA K w h 0 = Rz K 64 0 (St.ofHash w h) (fun s => h 0 + s.a) := by
 have := IE K (St.ofHash w h) 64 0 (fun s => h 0 + s.a)
 exact this.symm
theorem U7 : (lZ [])[0]? = some 227 := by
 have h : dA kF (dY (ql (jo []) 0)) hF 0 = 3820012610#32 := by
  rw [Yp]
  decide +kernel
 have hl : (jo []).length / 64 = 1 := by decide +kernel
 unfold lZ eY
 rw [hl]
 show (tab 32 fun j => byteOf (dA kF (dY (ql (jo []) 0)) hF (j / 4)) (j % 4))[0]? = some 227
 have h0 : (tab 32 fun j => byteOf (dA kF (dY (ql (jo []) 0)) hF (j / 4)) (j % 4))[0]? = some (byteOf (dA kF (dY (ql (jo []) 0)) hF 0) 0) := by
  rw [List.getElem?_eq_getElem (by rw [iJ]; omega), qD]
 rw [h0, h]
 decide
end
section
open Go.RowKit
def UB (c : CV) (k : aS) (n : aQ .u32) : CV := ⟨⟨sU c.c.h, (qY (pG c.c k n)).1, iK aD.at_ jO (iT (sU c.c.h) k vS) c.c.aV, c.c.av, c.c.tree, ou c.c.ring (pG c.c k n).root, c.c.pool⟩, bU 4 (c.past ++ [(pG c.c k n, c.c)])⟩
theorem NK (c : CV) (k : aS) (n : aQ .u32) (l : List rM) (h1 : dI c.c.pool = true) (hn : gW aD.at_ c.c.aV (iT (sU c.c.h) k vS).at_ = none) : kH c (pG c.c k n) l = .ok (UB c k n) := by
 have h := Oy (c := c.c) (k := k) (B := pG c.c k n) (l := l) rfl rfl rfl h1 hn
 unfold kH
 rw [h]
 rfl
theorem PL (x : aD) : gW aD.at_ ([] : List aD) x.at_ = none := rfl
theorem RS (x : aD) : (iK aD.at_ jO x ([] : List aD)).length = 1 := rfl
def Xf : CV := UB PG ai n0
theorem Q7 (l : List rM) : kH PG (pG PG.c ai n0) l = .ok Xf := NK PG ai n0 l (qK ⟨by show (0 : Int) ≤ 0; decide, by show (0 : Int) ≤ _; decide⟩) (PL _)
theorem Z7 : Xf.c.h.1 = 1 := by
 show (0 + 1 : Int) % 4294967296 = 1
 decide
theorem Mh : Xf.c.aV.length = 1 := RS _
theorem xL (w : World) (hR : aM w) : Calls Tryz.prog 4 #[] w fun e w' => e = .returned (.bool true) ∧ Below w.heap.size w w' := by
 have NW := qh (XD w hR)
 have MI := qh (show ∀ (A : Option Addr) (c : Nat) (V : World), Below w.heap.size w V → nC w.heap.size V (qZ A c) → Calls Tryz.prog 12 #[.agg (⟨qZ A c, z0⟩ : dJ).cells.toArray, .int .i64 1, .slice none 0 0] V fun e w' => ∃ u : CA, u.V = Xf ∧ e = .returned (.tuple #[.agg (⟨u, z0⟩ : dJ).cells.toArray, .bool true]) ∧ nC V.heap.size w' u ∧ Below V.heap.size V w' from fun A c V hb ho => Vm ⟨qZ A c, z0⟩ 1 Xf V ho.AJ iI.start (by decide) (aM.below hR hb (aM.sH hR) (aM.qL hR)) Q7)
 have SU := qh (show ∀ V, Below w.heap.size w V → Calls Tryz.prog 14 #[.string ⟨#[]⟩] V fun e w' => e = .returned (.agg (ay (lZ []))) ∧ Below V.heap.size V w' from fun V hb => BZ ⟨#[]⟩ (by decide) V (aM.below hR hb (aM.sH hR) (aM.qL hR)))
 have hb0 : (ay (lZ []))[0]? = some (.int .u8 227) := by
  unfold ay
  rw [List.getElem?_toArray, List.getElem?_map, U7]
  rfl
 have hix : ∀ W : World, (Instr.index 26 (.agg (ay (lZ []))) (.int .i64 0)).run Tryz.prog W = .ok (.int .u8 227) W := fun W => mX 26 5 32 (ay (lZ [])) .i64 .u8 0 (.int .u8 227) Tryz.underlying26 Tryz.underlying5 (by kernel_rfl) (by decide) hb0 W
 obtain ⟨Z, hZ, hz, hzs, hzn⟩ := bB jF jf
 have HS := qh hzs
 clear hR hZ hzs hb0
 go_enter Tryz.func4, Tryz.ntmps4
 go_wp2_with fail
 refine NW.out.mono ?_
 rintro e w1 ⟨A, c, rfl, o1, b1⟩
 have B1 := qh b1
 have O1 := qh o1
 clear o1 b1 NW
 go_wp2_with fail
 refine (MI.out A c _ B1.out O1.out).mono ?_
 rintro e w2 ⟨u, hu, rfl, o2, b2⟩
 have B2 := qh (B1.out.trans (b2.mono B1.out.size))
 have hh : u.c.C.h.1 = 1 := by rw [show u.c.C = u.V.c from rfl, hu]; exact Z7
 have hcl : u.c.C.aV.length = 1 := by rw [show u.c.C = u.V.c from rfl, hu]; exact Mh
 have HH := qh (And.intro hh hcl)
 clear hu o2 b2 B1 O1 MI hh hcl
 go_wp2_with (first
  | ((with_reducible refine ag 1 6 ?_); refine lF.aj rfl (.tmp 1) (.tmp 6) rfl rfl w2.heap.size (⟨u, z0⟩ : dJ) rfl rfl 52 _ (ax.new w2 52 Z) (by rw [HS.out]) ?_; intro w3 o3 b3
     have B3 := qh (B2.out.trans ((((Below.refl w2.heap.size w2).alloc (Nat.le_refl _) _).trans (o3.below (by simp))).mono B2.out.size))
     have c0 : w3.cell? ⟨w2.heap.size, 0, none⟩ = some (.int .u32 1) := by have := eT.c0 (dJ.chain (n := (⟨u, z0⟩ : dJ)) (au.ah b3)); rw [this]; exact congrArg (fun x => some (Value.int .u32 x)) HH.out.1
     have c33 : w3.cell? ⟨w2.heap.size, 33, none⟩ = some (.slice u.c.Ac 1 u.c.cc) := by have := eT.c2 (dJ.chain (n := (⟨u, z0⟩ : dJ)) (au.ah b3)); rw [Nat.zero_add] at this; rw [this]; exact congrArg (fun x => some (Value.slice u.c.Ac x u.c.cc)) HH.out.2
     clear o3 b3 B2))
 refine (SU.out _ B3.out).mono ?_
 rintro e w4 ⟨rfl, b4⟩
 have B4 := qh (B3.out.trans (b4.mono B3.out.size))
 clear b4 B3 SU
 go_wp2_with fail
 go_ret
 exact ⟨rfl, B4.out⟩
end
end Go.Proofs.YtnpmpeoojncjhaaGreatDoor
