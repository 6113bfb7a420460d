/- KeysMeets: the statement's walk (made by genMeets.py). -/
import Derived.Test.YtdojjddobepccaaLKTwice
import Derived.Test.YtdojjddobepccaaRowK3
import Derived.Test.YtdojjddobepccaaHeld
namespace Go.Proofs.Ytdojjddobepccaa
open Go.RowKit Go.Sort
theorem meetF_comm (l m : List K32) : meetF l m = meetF m l := by
  unfold meetF
  rw [Bool.eq_iff_iff, List.any_eq_true, List.any_eq_true]
  exact ⟨fun ⟨x, h1, h2⟩ => ⟨x, of_decide_eq_true h2, decide_eq_true h1⟩, fun ⟨x, h1, h2⟩ => ⟨x, of_decide_eq_true h2, decide_eq_true h1⟩⟩
theorem meetF_snoc (l m : List K32) (k : K32) : meetF (l ++ [k]) m = (meetF l m || decide (k ∈ m)) := by
  rw [meetF_comm, meetF_comm l m]
  unfold meetF
  rw [List.any_append]
  simp
theorem meetF_both (l m : List K32) (k : K32) : meetF (l ++ [k]) (m ++ [k]) = true := by
  rw [meetF_snoc]
  simp
set_option maxHeartbeats 8000000 in
theorem kmeets1 (A : Option Addr) (c : Nat) (l : List K32) (A' : Option Addr) (c' : Nat) (m : List K32) (k : K32) (hl : l.length ≤ 200) (hm : m.length ≤ 200) (hM : meetF l m = true) (hX : meetF (l ++ [k]) m = true) (_hK : decide (k ∈ m) = false) (w : World) (h : RowIn encK 32 w w.heap.size A c l) (h' : RowIn encK 32 w w.heap.size A' c' m) :
    Calls Try.prog 7 #[.slice A l.length c, .slice A' m.length c', .agg (bytesA k.1)] w fun e w' => e = .returned (.bool true) ∧ Below w.heap.size w w' := by
  have K0 := Lib.hid (Blk.new w 23 (bytesA k.1))
  have B0 := Lib.hid (show Below w.heap.size w (w.alloc (.cells (bytesA k.1) 23)) from (Below.refl _ _).alloc (Nat.le_refl _) _)
  have HOR := Lib.hid (fun W (hW : Below w.heap.size w W) => (h.below hW).more hW.size)
  have HOR' := Lib.hid (fun W (hW : Below w.heap.size w W) => (h'.below hW).more hW.size)
  have HM1 := Lib.hid (fun W (hW : Below w.heap.size w W) => meet_any A c l A' c' m w.heap.size (by omega) (by omega) W hW.size (h.below hW) (h'.below hW))
  have HM2 := Lib.hid (fun W (hW : Below w.heap.size w W) => meet_any A' c' m A c l w.heap.size (by omega) (by omega) W hW.size (h'.below hW) (h.below hW))
  have HHAS := Lib.hid (fun W (hW : Below w.heap.size w W) => refHas_any A' c' m k w.heap.size W (by omega) hW.size (h'.below hW))
  rw [hM] at HM1
  rw [meetF_comm, hM] at HM2
  rw [_hK] at HHAS
  have HX := Lib.hid hX
  clear hM hX _hK h h'
  obtain ⟨n, hn⟩ : ∃ n, l.length = n := ⟨_, rfl⟩
  obtain ⟨n', hn'⟩ : ∃ n, m.length = n := ⟨_, rfl⟩
  rw [hn, hn'] at HM1 HM2
  rw [hn'] at HHAS
  rw [hn] at hl
  rw [hn'] at hm
  rw [hn, hn']
  have HN := Lib.hid hn
  have HN' := Lib.hid hn'
  clear hn hn'
  have d0 : decide ((200 : Int) < (n : Int)) = false := decide_eq_false (by omega)
  have d1 : decide ((200 : Int) < (n' : Int)) = false := decide_eq_false (by omega)
  go_enter Try.func7, Try.ntmps7
  go_wp2_with (go_at_call 10; refine (shown_any _).mono ?_; rintro e w1 ⟨rfl, b1⟩; have K1 := Lib.hid (below_blk b1 K0.out K0.out.lt); have B1 := Lib.hid (B0.out.trans (b1.mono B0.out.size)); clear b1)
  have HRI := Lib.hid (HOR.out w1 B1.out)
  go_cut [7] from 22 (fun vx wc => ∃ (m7 : Nat) (A7 : Option Addr) (c7 : Nat), vx = .slice A7 m7 c7 ∧ Hid (m7 = (l ++ [k]).length ∧ RowIn encK 32 wc wc.heap.size A7 c7 (l ++ [k])) ∧ Hid (Below w1.heap.size w1 wc))
  case first =>
    have HRDa := Lib.hid (fun W (hW : Below w1.heap.size w1 W) => HRI.out.below hW)
    have LENa := Lib.hid (show l.length ≤ 200 by rw [HN.out]; omega)
    refine wp_region_held_drew (S := Below w1.heap.size w1) (by kernel_rfl) (Below.refl _ _).drew ?_
    intro hS
    generalize w1.drew = wd at hS ⊢
    refine wpAnyH_take (i := 1) (v := .slice A n c) rfl (by kernel_rfl) (by kernel_rfl) (by kernel_rfl) (fun _ _ _ h => h) (Or.inl ⟨by rfl, fun W _ => by go_simp; try with_reducible rfl⟩) hS ?_
    simp only [Act.put, List.getElem_toArray, List.getElem_cons_zero, List.getElem_cons_succ, List.setIfInBounds_toArray, List.set_cons_succ, List.set_cons_zero]
    refine wpAnyH_take (i := 3) (v := .agg (bytesA k.1)) rfl (by kernel_rfl) (by kernel_rfl) (by kernel_rfl) (fun _ _ _ h => h) (yieldsIf_load_row (by rfl) 23 (.tmp 5) rfl w.heap.size rfl 23 (bytesA k.1) _ (fun _ hW => below_blk hW K1.out K1.out.lt) Try.underlying23 rfl (szK k)) hS ?_
    simp only [Act.put, List.getElem_toArray, List.getElem_cons_zero, List.getElem_cons_succ, List.setIfInBounds_toArray, List.set_cons_succ, List.set_cons_zero]
    refine wpAnyH_ready (rs := [0, 4]) (by kernel_rfl) (by simp) ?_
    refine AllReadyH.cons rfl (fun Kq hK => ?_) (AllReadyH.cons rfl (fun Kq hK => ?_) AllReadyH.nil)
    · go_simp
      have e1 : (wd.alloc (.cells #[] 23)).ownsRow w1.heap.size 23 32 (.slice (some ⟨wd.heap.size, 0, none⟩) 0 0) ([] : List K32).length (cellsOf encK []) := own_nil (blk_new (w := wd) 23 #[] (by simp)) (by have := hS.size; (try simp at this); omega)
      refine hK.out _ _ (hS.alloc hS.size _) (fun hS => ?_)
      clear hK Kq
      refine wpAnyH_ready (rs := [2, 4]) (by kernel_rfl) (by simp) ?_
      refine AllReadyH.cons rfl (fun Kq hK => ?_) (AllReadyH.cons rfl (fun Kq hK => ?_) AllReadyH.nil)
      · refine tyK.step_append rfl zcK 32 zbK (by omega) (.tmp 22) (.tmp 23) rfl w1.heap.size _ [] rfl e1 w1.heap.size A c l (by show Value.slice A n c = _; rw [HN.out]) (HRDa.out _ hS) (by have := LENa.out; simp; omega) hS.size ?_
        intro v2 wq2 p2 g2
        have hS2 := hS.trans (own_grown e1 g2 hS.size)
        refine hK.out _ _ hS2 (fun hS => ?_)
        clear hK Kq hS2 g2
        simp only [Act.put, List.getElem_toArray, List.getElem_cons_zero, List.getElem_cons_succ, List.setIfInBounds_toArray, List.set_cons_succ, List.set_cons_zero]
        refine wpAnyH_ready (rs := [4]) (by kernel_rfl) (by simp) ?_
        refine AllReadyH.cons rfl (fun Kq hK => ?_) AllReadyH.nil
        refine tyK.step_build rfl zeroK 1 _ rfl [k] rfl (by omega) (by omega) (by kernel_rfl) ?_
        have f4 := Blk.new wq2 23 (cellsOf encK [k]).toArray
        refine hK.out _ _ (hS.alloc hS.size _) (fun hS => ?_)
        clear hK Kq
        simp only [Act.put, List.getElem_toArray, List.getElem_cons_zero, List.getElem_cons_succ, List.setIfInBounds_toArray, List.set_cons_succ, List.set_cons_zero]
        refine wpAnyH_ready (rs := [5]) (by kernel_rfl) (by simp) ?_
        refine AllReadyH.cons rfl (fun Kq hK => ?_) AllReadyH.nil
        refine tyK.step_append rfl zcK 32 zbK (by omega) (.tmp 24) (.tmp 26) rfl w1.heap.size _ ([] ++ l) rfl (own_alloc p2 _) _ (some ⟨wq2.heap.size, 0, none⟩) 1 [k] rfl (rowIn_blk (f4) (by simp) (by simp [maxLen])) (by have := LENa.out; simp; omega) hS.size ?_
        intro v9 w9 p9 g9
        have hS2 := hS.trans (own_grown (own_alloc p2 _) g9 hS.size)
        refine hK.out _ _ hS2 (fun hS => ?_)
        clear hK Kq hS2 g9
        simp only [Act.put, List.getElem_toArray, List.getElem_cons_zero, List.getElem_cons_succ, List.setIfInBounds_toArray, List.set_cons_succ, List.set_cons_zero]
        refine wpAnyH_ready (rs := [6]) (by kernel_rfl) (by simp) ?_
        refine AllReadyH.cons rfl (fun Kq hK => ?_) AllReadyH.nil
        go_simp
        refine hK.out _ _ hS (fun _ => ?_)
        clear hK Kq
        refine wpAnyH_done (by kernel_rfl) ?_ _
        obtain ⟨A9, c9, rfl, r9⟩ := RowIn.of_own encK_len (own_congr p9 (show ([] ++ l) ++ [k] = l ++ [k] by simp))
        clear p9
        go_wp2_with fail
        go_meet
        exact ⟨_, A9, c9, rfl, Lib.hid ⟨rfl, r9⟩, Lib.hid hS⟩
      · refine tyK.step_build rfl zeroK 1 _ rfl [k] rfl (by omega) (by omega) (by kernel_rfl) ?_
        have f4 := Blk.new (wd.alloc (.cells #[] 23)) 23 (cellsOf encK [k]).toArray
        refine hK.out _ _ (hS.alloc hS.size _) (fun hS => ?_)
        clear hK Kq
        simp only [Act.put, List.getElem_toArray, List.getElem_cons_zero, List.getElem_cons_succ, List.setIfInBounds_toArray, List.set_cons_succ, List.set_cons_zero]
        refine wpAnyH_ready (rs := [2]) (by kernel_rfl) (by simp) ?_
        refine AllReadyH.cons rfl (fun Kq hK => ?_) AllReadyH.nil
        refine tyK.step_append rfl zcK 32 zbK (by omega) (.tmp 22) (.tmp 23) rfl w1.heap.size _ [] rfl (own_alloc e1 _) w1.heap.size A c l (by show Value.slice A n c = _; rw [HN.out]) (HRDa.out _ hS) (by have := LENa.out; simp; omega) hS.size ?_
        intro v2 wq2 p2 g2
        have hS2 := hS.trans (own_grown (own_alloc e1 _) g2 hS.size)
        have f2 := blk_grown f4 g2 (by show some ((wd.alloc (.cells #[] 23)).heap.size) ≠ some (wd.heap.size); simp)
        refine hK.out _ _ hS2 (fun hS => ?_)
        clear hK Kq hS2 g2
        simp only [Act.put, List.getElem_toArray, List.getElem_cons_zero, List.getElem_cons_succ, List.setIfInBounds_toArray, List.set_cons_succ, List.set_cons_zero]
        refine wpAnyH_ready (rs := [5]) (by kernel_rfl) (by simp) ?_
        refine AllReadyH.cons rfl (fun Kq hK => ?_) AllReadyH.nil
        refine tyK.step_append rfl zcK 32 zbK (by omega) (.tmp 24) (.tmp 26) rfl w1.heap.size _ ([] ++ l) rfl (p2) _ (some ⟨(wd.alloc (.cells #[] 23)).heap.size, 0, none⟩) 1 [k] rfl (rowIn_blk (f2) (by simp) (by simp [maxLen])) (by have := LENa.out; simp; omega) hS.size ?_
        intro v9 w9 p9 g9
        have hS2 := hS.trans (own_grown (p2) g9 hS.size)
        refine hK.out _ _ hS2 (fun hS => ?_)
        clear hK Kq hS2 g9
        simp only [Act.put, List.getElem_toArray, List.getElem_cons_zero, List.getElem_cons_succ, List.setIfInBounds_toArray, List.set_cons_succ, List.set_cons_zero]
        refine wpAnyH_ready (rs := [6]) (by kernel_rfl) (by simp) ?_
        refine AllReadyH.cons rfl (fun Kq hK => ?_) AllReadyH.nil
        go_simp
        refine hK.out _ _ hS (fun _ => ?_)
        clear hK Kq
        refine wpAnyH_done (by kernel_rfl) ?_ _
        obtain ⟨A9, c9, rfl, r9⟩ := RowIn.of_own encK_len (own_congr p9 (show ([] ++ l) ++ [k] = l ++ [k] by simp))
        clear p9
        go_wp2_with fail
        go_meet
        exact ⟨_, A9, c9, rfl, Lib.hid ⟨rfl, r9⟩, Lib.hid hS⟩
    · refine tyK.step_build rfl zeroK 1 _ rfl [k] rfl (by omega) (by omega) (by kernel_rfl) ?_
      have f4 := Blk.new wd 23 (cellsOf encK [k]).toArray
      refine hK.out _ _ (hS.alloc hS.size _) (fun hS => ?_)
      clear hK Kq
      simp only [Act.put, List.getElem_toArray, List.getElem_cons_zero, List.getElem_cons_succ, List.setIfInBounds_toArray, List.set_cons_succ, List.set_cons_zero]
      refine wpAnyH_ready (rs := [0]) (by kernel_rfl) (by simp) ?_
      refine AllReadyH.cons rfl (fun Kq hK => ?_) AllReadyH.nil
      go_simp
      have e1 : ((wd.alloc (.cells (cellsOf encK [k]).toArray 23)).alloc (.cells #[] 23)).ownsRow w1.heap.size 23 32 (.slice (some ⟨wd.heap.size + 1, 0, none⟩) 0 0) ([] : List K32).length (cellsOf encK []) := own_nil (blk_new (w := (wd.alloc (.cells (cellsOf encK [k]).toArray 23))) 23 #[] (by simp)) (by have := hS.size; (try simp at this); omega)
      refine hK.out _ _ (hS.alloc hS.size _) (fun hS => ?_)
      clear hK Kq
      refine wpAnyH_ready (rs := [2]) (by kernel_rfl) (by simp) ?_
      refine AllReadyH.cons rfl (fun Kq hK => ?_) AllReadyH.nil
      refine tyK.step_append rfl zcK 32 zbK (by omega) (.tmp 22) (.tmp 23) rfl w1.heap.size _ [] rfl e1 w1.heap.size A c l (by show Value.slice A n c = _; rw [HN.out]) (HRDa.out _ hS) (by have := LENa.out; simp; omega) hS.size ?_
      intro v2 wq2 p2 g2
      have hS2 := hS.trans (own_grown e1 g2 hS.size)
      have f2 := blk_grown (f4.alloc _) g2 (by show some (wd.heap.size) ≠ some (wd.heap.size + 1); simp)
      refine hK.out _ _ hS2 (fun hS => ?_)
      clear hK Kq hS2 g2
      simp only [Act.put, List.getElem_toArray, List.getElem_cons_zero, List.getElem_cons_succ, List.setIfInBounds_toArray, List.set_cons_succ, List.set_cons_zero]
      refine wpAnyH_ready (rs := [5]) (by kernel_rfl) (by simp) ?_
      refine AllReadyH.cons rfl (fun Kq hK => ?_) AllReadyH.nil
      refine tyK.step_append rfl zcK 32 zbK (by omega) (.tmp 24) (.tmp 26) rfl w1.heap.size _ ([] ++ l) rfl (p2) _ (some ⟨wd.heap.size, 0, none⟩) 1 [k] rfl (rowIn_blk (f2) (by simp) (by simp [maxLen])) (by have := LENa.out; simp; omega) hS.size ?_
      intro v9 w9 p9 g9
      have hS2 := hS.trans (own_grown (p2) g9 hS.size)
      refine hK.out _ _ hS2 (fun hS => ?_)
      clear hK Kq hS2 g9
      simp only [Act.put, List.getElem_toArray, List.getElem_cons_zero, List.getElem_cons_succ, List.setIfInBounds_toArray, List.set_cons_succ, List.set_cons_zero]
      refine wpAnyH_ready (rs := [6]) (by kernel_rfl) (by simp) ?_
      refine AllReadyH.cons rfl (fun Kq hK => ?_) AllReadyH.nil
      go_simp
      refine hK.out _ _ hS (fun _ => ?_)
      clear hK Kq
      refine wpAnyH_done (by kernel_rfl) ?_ _
      obtain ⟨A9, c9, rfl, r9⟩ := RowIn.of_own encK_len (own_congr p9 (show ([] ++ l) ++ [k] = l ++ [k] by simp))
      clear p9
      go_wp2_with fail
      go_meet
      exact ⟨_, A9, c9, rfl, Lib.hid ⟨rfl, r9⟩, Lib.hid hS⟩
  case rest =>
    rename World => w2
    obtain ⟨m7, A7, c7, rfl, HR7, HB7⟩ := hcut
    have K2 := Lib.hid (below_blk HB7.out K1.out K1.out.lt)
    have B2 := Lib.hid (B1.out.trans (HB7.out.mono B1.out.size))
    have HRI2 := Lib.hid (HOR'.out w2 B2.out)
    clear K1 B1 HRI HB7
    go_wp2_with fail
    go_cut [8] from 28 (fun vx wc => ∃ (m8 : Nat) (A8 : Option Addr) (c8 : Nat), vx = .slice A8 m8 c8 ∧ Hid (m8 = (m ++ [k]).length ∧ RowIn encK 32 wc wc.heap.size A8 c8 (m ++ [k])) ∧ Hid (Below w2.heap.size w2 wc))
    case first =>
      have HRDb := Lib.hid (fun W (hW : Below w2.heap.size w2 W) => HRI2.out.below hW)
      have LENb := Lib.hid (show m.length ≤ 200 by rw [HN'.out]; omega)
      refine wp_region_held_drew (S := Below w2.heap.size w2) (by kernel_rfl) (Below.refl _ _).drew ?_
      intro hS
      generalize w2.drew = wd at hS ⊢
      refine wpAnyH_take (i := 1) (v := .slice A' n' c') rfl (by kernel_rfl) (by kernel_rfl) (by kernel_rfl) (fun _ _ _ h => h) (Or.inl ⟨by rfl, fun W _ => by go_simp; try with_reducible rfl⟩) hS ?_
      simp only [Act.put, List.getElem_toArray, List.getElem_cons_zero, List.getElem_cons_succ, List.setIfInBounds_toArray, List.set_cons_succ, List.set_cons_zero]
      refine wpAnyH_take (i := 3) (v := .agg (bytesA k.1)) rfl (by kernel_rfl) (by kernel_rfl) (by kernel_rfl) (fun _ _ _ h => h) (yieldsIf_load_row (by rfl) 23 (.tmp 5) rfl w.heap.size rfl 23 (bytesA k.1) _ (fun _ hW => below_blk hW K2.out K2.out.lt) Try.underlying23 rfl (szK k)) hS ?_
      simp only [Act.put, List.getElem_toArray, List.getElem_cons_zero, List.getElem_cons_succ, List.setIfInBounds_toArray, List.set_cons_succ, List.set_cons_zero]
      refine wpAnyH_ready (rs := [0, 4]) (by kernel_rfl) (by simp) ?_
      refine AllReadyH.cons rfl (fun Kq hK => ?_) (AllReadyH.cons rfl (fun Kq hK => ?_) AllReadyH.nil)
      · go_simp
        have e1 : (wd.alloc (.cells #[] 23)).ownsRow w2.heap.size 23 32 (.slice (some ⟨wd.heap.size, 0, none⟩) 0 0) ([] : List K32).length (cellsOf encK []) := own_nil (blk_new (w := wd) 23 #[] (by simp)) (by have := hS.size; (try simp at this); omega)
        refine hK.out _ _ (hS.alloc hS.size _) (fun hS => ?_)
        clear hK Kq
        refine wpAnyH_ready (rs := [2, 4]) (by kernel_rfl) (by simp) ?_
        refine AllReadyH.cons rfl (fun Kq hK => ?_) (AllReadyH.cons rfl (fun Kq hK => ?_) AllReadyH.nil)
        · refine tyK.step_append rfl zcK 32 zbK (by omega) (.tmp 28) (.tmp 29) rfl w2.heap.size _ [] rfl e1 w2.heap.size A' c' m (by show Value.slice A' n' c' = _; rw [HN'.out]) (HRDb.out _ hS) (by have := LENb.out; simp; omega) hS.size ?_
          intro v2 wq2 p2 g2
          have hS2 := hS.trans (own_grown e1 g2 hS.size)
          refine hK.out _ _ hS2 (fun hS => ?_)
          clear hK Kq hS2 g2
          simp only [Act.put, List.getElem_toArray, List.getElem_cons_zero, List.getElem_cons_succ, List.setIfInBounds_toArray, List.set_cons_succ, List.set_cons_zero]
          refine wpAnyH_ready (rs := [4]) (by kernel_rfl) (by simp) ?_
          refine AllReadyH.cons rfl (fun Kq hK => ?_) AllReadyH.nil
          refine tyK.step_build rfl zeroK 1 _ rfl [k] rfl (by omega) (by omega) (by kernel_rfl) ?_
          have f4 := Blk.new wq2 23 (cellsOf encK [k]).toArray
          refine hK.out _ _ (hS.alloc hS.size _) (fun hS => ?_)
          clear hK Kq
          simp only [Act.put, List.getElem_toArray, List.getElem_cons_zero, List.getElem_cons_succ, List.setIfInBounds_toArray, List.set_cons_succ, List.set_cons_zero]
          refine wpAnyH_ready (rs := [5]) (by kernel_rfl) (by simp) ?_
          refine AllReadyH.cons rfl (fun Kq hK => ?_) AllReadyH.nil
          refine tyK.step_append rfl zcK 32 zbK (by omega) (.tmp 30) (.tmp 32) rfl w2.heap.size _ ([] ++ m) rfl (own_alloc p2 _) _ (some ⟨wq2.heap.size, 0, none⟩) 1 [k] rfl (rowIn_blk (f4) (by simp) (by simp [maxLen])) (by have := LENb.out; simp; omega) hS.size ?_
          intro v9 w9 p9 g9
          have hS2 := hS.trans (own_grown (own_alloc p2 _) g9 hS.size)
          refine hK.out _ _ hS2 (fun hS => ?_)
          clear hK Kq hS2 g9
          simp only [Act.put, List.getElem_toArray, List.getElem_cons_zero, List.getElem_cons_succ, List.setIfInBounds_toArray, List.set_cons_succ, List.set_cons_zero]
          refine wpAnyH_ready (rs := [6]) (by kernel_rfl) (by simp) ?_
          refine AllReadyH.cons rfl (fun Kq hK => ?_) AllReadyH.nil
          go_simp
          refine hK.out _ _ hS (fun _ => ?_)
          clear hK Kq
          refine wpAnyH_done (by kernel_rfl) ?_ _
          obtain ⟨A9, c9, rfl, r9⟩ := RowIn.of_own encK_len (own_congr p9 (show ([] ++ m) ++ [k] = m ++ [k] by simp))
          clear p9
          go_wp2_with fail
          go_meet
          exact ⟨_, A9, c9, rfl, Lib.hid ⟨rfl, r9⟩, Lib.hid hS⟩
        · refine tyK.step_build rfl zeroK 1 _ rfl [k] rfl (by omega) (by omega) (by kernel_rfl) ?_
          have f4 := Blk.new (wd.alloc (.cells #[] 23)) 23 (cellsOf encK [k]).toArray
          refine hK.out _ _ (hS.alloc hS.size _) (fun hS => ?_)
          clear hK Kq
          simp only [Act.put, List.getElem_toArray, List.getElem_cons_zero, List.getElem_cons_succ, List.setIfInBounds_toArray, List.set_cons_succ, List.set_cons_zero]
          refine wpAnyH_ready (rs := [2]) (by kernel_rfl) (by simp) ?_
          refine AllReadyH.cons rfl (fun Kq hK => ?_) AllReadyH.nil
          refine tyK.step_append rfl zcK 32 zbK (by omega) (.tmp 28) (.tmp 29) rfl w2.heap.size _ [] rfl (own_alloc e1 _) w2.heap.size A' c' m (by show Value.slice A' n' c' = _; rw [HN'.out]) (HRDb.out _ hS) (by have := LENb.out; simp; omega) hS.size ?_
          intro v2 wq2 p2 g2
          have hS2 := hS.trans (own_grown (own_alloc e1 _) g2 hS.size)
          have f2 := blk_grown f4 g2 (by show some ((wd.alloc (.cells #[] 23)).heap.size) ≠ some (wd.heap.size); simp)
          refine hK.out _ _ hS2 (fun hS => ?_)
          clear hK Kq hS2 g2
          simp only [Act.put, List.getElem_toArray, List.getElem_cons_zero, List.getElem_cons_succ, List.setIfInBounds_toArray, List.set_cons_succ, List.set_cons_zero]
          refine wpAnyH_ready (rs := [5]) (by kernel_rfl) (by simp) ?_
          refine AllReadyH.cons rfl (fun Kq hK => ?_) AllReadyH.nil
          refine tyK.step_append rfl zcK 32 zbK (by omega) (.tmp 30) (.tmp 32) rfl w2.heap.size _ ([] ++ m) rfl (p2) _ (some ⟨(wd.alloc (.cells #[] 23)).heap.size, 0, none⟩) 1 [k] rfl (rowIn_blk (f2) (by simp) (by simp [maxLen])) (by have := LENb.out; simp; omega) hS.size ?_
          intro v9 w9 p9 g9
          have hS2 := hS.trans (own_grown (p2) g9 hS.size)
          refine hK.out _ _ hS2 (fun hS => ?_)
          clear hK Kq hS2 g9
          simp only [Act.put, List.getElem_toArray, List.getElem_cons_zero, List.getElem_cons_succ, List.setIfInBounds_toArray, List.set_cons_succ, List.set_cons_zero]
          refine wpAnyH_ready (rs := [6]) (by kernel_rfl) (by simp) ?_
          refine AllReadyH.cons rfl (fun Kq hK => ?_) AllReadyH.nil
          go_simp
          refine hK.out _ _ hS (fun _ => ?_)
          clear hK Kq
          refine wpAnyH_done (by kernel_rfl) ?_ _
          obtain ⟨A9, c9, rfl, r9⟩ := RowIn.of_own encK_len (own_congr p9 (show ([] ++ m) ++ [k] = m ++ [k] by simp))
          clear p9
          go_wp2_with fail
          go_meet
          exact ⟨_, A9, c9, rfl, Lib.hid ⟨rfl, r9⟩, Lib.hid hS⟩
      · refine tyK.step_build rfl zeroK 1 _ rfl [k] rfl (by omega) (by omega) (by kernel_rfl) ?_
        have f4 := Blk.new wd 23 (cellsOf encK [k]).toArray
        refine hK.out _ _ (hS.alloc hS.size _) (fun hS => ?_)
        clear hK Kq
        simp only [Act.put, List.getElem_toArray, List.getElem_cons_zero, List.getElem_cons_succ, List.setIfInBounds_toArray, List.set_cons_succ, List.set_cons_zero]
        refine wpAnyH_ready (rs := [0]) (by kernel_rfl) (by simp) ?_
        refine AllReadyH.cons rfl (fun Kq hK => ?_) AllReadyH.nil
        go_simp
        have e1 : ((wd.alloc (.cells (cellsOf encK [k]).toArray 23)).alloc (.cells #[] 23)).ownsRow w2.heap.size 23 32 (.slice (some ⟨wd.heap.size + 1, 0, none⟩) 0 0) ([] : List K32).length (cellsOf encK []) := own_nil (blk_new (w := (wd.alloc (.cells (cellsOf encK [k]).toArray 23))) 23 #[] (by simp)) (by have := hS.size; (try simp at this); omega)
        refine hK.out _ _ (hS.alloc hS.size _) (fun hS => ?_)
        clear hK Kq
        refine wpAnyH_ready (rs := [2]) (by kernel_rfl) (by simp) ?_
        refine AllReadyH.cons rfl (fun Kq hK => ?_) AllReadyH.nil
        refine tyK.step_append rfl zcK 32 zbK (by omega) (.tmp 28) (.tmp 29) rfl w2.heap.size _ [] rfl e1 w2.heap.size A' c' m (by show Value.slice A' n' c' = _; rw [HN'.out]) (HRDb.out _ hS) (by have := LENb.out; simp; omega) hS.size ?_
        intro v2 wq2 p2 g2
        have hS2 := hS.trans (own_grown e1 g2 hS.size)
        have f2 := blk_grown (f4.alloc _) g2 (by show some (wd.heap.size) ≠ some (wd.heap.size + 1); simp)
        refine hK.out _ _ hS2 (fun hS => ?_)
        clear hK Kq hS2 g2
        simp only [Act.put, List.getElem_toArray, List.getElem_cons_zero, List.getElem_cons_succ, List.setIfInBounds_toArray, List.set_cons_succ, List.set_cons_zero]
        refine wpAnyH_ready (rs := [5]) (by kernel_rfl) (by simp) ?_
        refine AllReadyH.cons rfl (fun Kq hK => ?_) AllReadyH.nil
        refine tyK.step_append rfl zcK 32 zbK (by omega) (.tmp 30) (.tmp 32) rfl w2.heap.size _ ([] ++ m) rfl (p2) _ (some ⟨wd.heap.size, 0, none⟩) 1 [k] rfl (rowIn_blk (f2) (by simp) (by simp [maxLen])) (by have := LENb.out; simp; omega) hS.size ?_
        intro v9 w9 p9 g9
        have hS2 := hS.trans (own_grown (p2) g9 hS.size)
        refine hK.out _ _ hS2 (fun hS => ?_)
        clear hK Kq hS2 g9
        simp only [Act.put, List.getElem_toArray, List.getElem_cons_zero, List.getElem_cons_succ, List.setIfInBounds_toArray, List.set_cons_succ, List.set_cons_zero]
        refine wpAnyH_ready (rs := [6]) (by kernel_rfl) (by simp) ?_
        refine AllReadyH.cons rfl (fun Kq hK => ?_) AllReadyH.nil
        go_simp
        refine hK.out _ _ hS (fun _ => ?_)
        clear hK Kq
        refine wpAnyH_done (by kernel_rfl) ?_ _
        obtain ⟨A9, c9, rfl, r9⟩ := RowIn.of_own encK_len (own_congr p9 (show ([] ++ m) ++ [k] = m ++ [k] by simp))
        clear p9
        go_wp2_with fail
        go_meet
        exact ⟨_, A9, c9, rfl, Lib.hid ⟨rfl, r9⟩, Lib.hid hS⟩
    case rest =>
      rename World => w3
      obtain ⟨m8, A8, c8, rfl, HR8, HB8⟩ := hcut
      have K3 := Lib.hid (below_blk HB8.out K2.out K2.out.lt)
      have B3 := Lib.hid (B2.out.trans (HB8.out.mono B2.out.size))
      have R7 := Lib.hid ((HR7.out.2.below HB8.out).more HB8.out.size)
      have HL1 := Lib.hid (show (l ++ [k]).length ≤ 201 by rw [List.length_append, HN.out]; simp; omega)
      have HL2 := Lib.hid (show (m ++ [k]).length ≤ 201 by rw [List.length_append, HN'.out]; simp; omega)
      have HMX := Lib.hid (fun W (hW : Below w3.heap.size w3 W) => meet_any A7 c7 (l ++ [k]) A8 c8 (m ++ [k]) w3.heap.size (by have := HL1.out; omega) (by have := HL2.out; omega) W hW.size (R7.out.below hW) (HR8.out.2.below hW))
      have HXM := Lib.hid (fun W (hW : Below w3.heap.size w3 W) => meet_any A7 c7 (l ++ [k]) A' c' m w3.heap.size (by have := HL1.out; omega) (by rw [HN'.out]; omega) W hW.size (R7.out.below hW) ((HOR'.out w3 B3.out).below hW))
      rw [meetF_both, ← HR7.out.1, ← HR8.out.1] at HMX
      rw [HX.out, ← HR7.out.1, HN'.out] at HXM
      have HC := Lib.hid (show Below w3.heap.size w3 w3 from Below.refl _ _)
      clear K2 B2 HRI2 HB8 HR7 HR8 R7
      go_wp2_with (first
        | ((with_reducible refine at_loadg 5 ?_); refine wpList_load_rowg (by rfl) 23 (.tmp 5) rfl w.heap.size rfl 23 (bytesA k.1) _ (below_blk HC.out K3.out K3.out.lt) Try.underlying23 rfl (szK k) ?_)
        | (go_at_call 24; (first | with_reducible refine (HM1.out _ (B3.out.trans (HC.out.mono B3.out.size))).mono ?_ | with_reducible refine (HM2.out _ (B3.out.trans (HC.out.mono B3.out.size))).mono ?_ | with_reducible refine (HMX.out _ HC.out).mono ?_ | with_reducible refine (HXM.out _ HC.out).mono ?_); rintro e w4 ⟨rfl, b4⟩; replace HC := Lib.hid (HC.out.trans (b4.mono HC.out.size)); clear b4)
        | (go_at_call 23; with_reducible refine (HHAS.out _ (B3.out.trans (HC.out.mono B3.out.size))).mono ?_; rintro e w4 ⟨rfl, b4⟩; replace HC := Lib.hid (HC.out.trans (b4.mono HC.out.size)); clear b4))
      go_ret
      exact ⟨rfl, B3.out.trans (HC.out.mono B3.out.size)⟩
set_option maxHeartbeats 8000000 in
theorem kmeets2 (A : Option Addr) (c : Nat) (l : List K32) (A' : Option Addr) (c' : Nat) (m : List K32) (k : K32) (hl : l.length ≤ 200) (hm : m.length ≤ 200) (hM : meetF l m = true) (hX : meetF (l ++ [k]) m = true) (_hK : decide (k ∈ m) = true) (w : World) (h : RowIn encK 32 w w.heap.size A c l) (h' : RowIn encK 32 w w.heap.size A' c' m) :
    Calls Try.prog 7 #[.slice A l.length c, .slice A' m.length c', .agg (bytesA k.1)] w fun e w' => e = .returned (.bool true) ∧ Below w.heap.size w w' := by
  have K0 := Lib.hid (Blk.new w 23 (bytesA k.1))
  have B0 := Lib.hid (show Below w.heap.size w (w.alloc (.cells (bytesA k.1) 23)) from (Below.refl _ _).alloc (Nat.le_refl _) _)
  have HOR := Lib.hid (fun W (hW : Below w.heap.size w W) => (h.below hW).more hW.size)
  have HOR' := Lib.hid (fun W (hW : Below w.heap.size w W) => (h'.below hW).more hW.size)
  have HM1 := Lib.hid (fun W (hW : Below w.heap.size w W) => meet_any A c l A' c' m w.heap.size (by omega) (by omega) W hW.size (h.below hW) (h'.below hW))
  have HM2 := Lib.hid (fun W (hW : Below w.heap.size w W) => meet_any A' c' m A c l w.heap.size (by omega) (by omega) W hW.size (h'.below hW) (h.below hW))
  have HHAS := Lib.hid (fun W (hW : Below w.heap.size w W) => refHas_any A' c' m k w.heap.size W (by omega) hW.size (h'.below hW))
  rw [hM] at HM1
  rw [meetF_comm, hM] at HM2
  rw [_hK] at HHAS
  have HX := Lib.hid hX
  clear hM hX _hK h h'
  obtain ⟨n, hn⟩ : ∃ n, l.length = n := ⟨_, rfl⟩
  obtain ⟨n', hn'⟩ : ∃ n, m.length = n := ⟨_, rfl⟩
  rw [hn, hn'] at HM1 HM2
  rw [hn'] at HHAS
  rw [hn] at hl
  rw [hn'] at hm
  rw [hn, hn']
  have HN := Lib.hid hn
  have HN' := Lib.hid hn'
  clear hn hn'
  have d0 : decide ((200 : Int) < (n : Int)) = false := decide_eq_false (by omega)
  have d1 : decide ((200 : Int) < (n' : Int)) = false := decide_eq_false (by omega)
  go_enter Try.func7, Try.ntmps7
  go_wp2_with (go_at_call 10; refine (shown_any _).mono ?_; rintro e w1 ⟨rfl, b1⟩; have K1 := Lib.hid (below_blk b1 K0.out K0.out.lt); have B1 := Lib.hid (B0.out.trans (b1.mono B0.out.size)); clear b1)
  have HRI := Lib.hid (HOR.out w1 B1.out)
  go_cut [7] from 22 (fun vx wc => ∃ (m7 : Nat) (A7 : Option Addr) (c7 : Nat), vx = .slice A7 m7 c7 ∧ Hid (m7 = (l ++ [k]).length ∧ RowIn encK 32 wc wc.heap.size A7 c7 (l ++ [k])) ∧ Hid (Below w1.heap.size w1 wc))
  case first =>
    have HRDa := Lib.hid (fun W (hW : Below w1.heap.size w1 W) => HRI.out.below hW)
    have LENa := Lib.hid (show l.length ≤ 200 by rw [HN.out]; omega)
    refine wp_region_held_drew (S := Below w1.heap.size w1) (by kernel_rfl) (Below.refl _ _).drew ?_
    intro hS
    generalize w1.drew = wd at hS ⊢
    refine wpAnyH_take (i := 1) (v := .slice A n c) rfl (by kernel_rfl) (by kernel_rfl) (by kernel_rfl) (fun _ _ _ h => h) (Or.inl ⟨by rfl, fun W _ => by go_simp; try with_reducible rfl⟩) hS ?_
    simp only [Act.put, List.getElem_toArray, List.getElem_cons_zero, List.getElem_cons_succ, List.setIfInBounds_toArray, List.set_cons_succ, List.set_cons_zero]
    refine wpAnyH_take (i := 3) (v := .agg (bytesA k.1)) rfl (by kernel_rfl) (by kernel_rfl) (by kernel_rfl) (fun _ _ _ h => h) (yieldsIf_load_row (by rfl) 23 (.tmp 5) rfl w.heap.size rfl 23 (bytesA k.1) _ (fun _ hW => below_blk hW K1.out K1.out.lt) Try.underlying23 rfl (szK k)) hS ?_
    simp only [Act.put, List.getElem_toArray, List.getElem_cons_zero, List.getElem_cons_succ, List.setIfInBounds_toArray, List.set_cons_succ, List.set_cons_zero]
    refine wpAnyH_ready (rs := [0, 4]) (by kernel_rfl) (by simp) ?_
    refine AllReadyH.cons rfl (fun Kq hK => ?_) (AllReadyH.cons rfl (fun Kq hK => ?_) AllReadyH.nil)
    · go_simp
      have e1 : (wd.alloc (.cells #[] 23)).ownsRow w1.heap.size 23 32 (.slice (some ⟨wd.heap.size, 0, none⟩) 0 0) ([] : List K32).length (cellsOf encK []) := own_nil (blk_new (w := wd) 23 #[] (by simp)) (by have := hS.size; (try simp at this); omega)
      refine hK.out _ _ (hS.alloc hS.size _) (fun hS => ?_)
      clear hK Kq
      refine wpAnyH_ready (rs := [2, 4]) (by kernel_rfl) (by simp) ?_
      refine AllReadyH.cons rfl (fun Kq hK => ?_) (AllReadyH.cons rfl (fun Kq hK => ?_) AllReadyH.nil)
      · refine tyK.step_append rfl zcK 32 zbK (by omega) (.tmp 22) (.tmp 23) rfl w1.heap.size _ [] rfl e1 w1.heap.size A c l (by show Value.slice A n c = _; rw [HN.out]) (HRDa.out _ hS) (by have := LENa.out; simp; omega) hS.size ?_
        intro v2 wq2 p2 g2
        have hS2 := hS.trans (own_grown e1 g2 hS.size)
        refine hK.out _ _ hS2 (fun hS => ?_)
        clear hK Kq hS2 g2
        simp only [Act.put, List.getElem_toArray, List.getElem_cons_zero, List.getElem_cons_succ, List.setIfInBounds_toArray, List.set_cons_succ, List.set_cons_zero]
        refine wpAnyH_ready (rs := [4]) (by kernel_rfl) (by simp) ?_
        refine AllReadyH.cons rfl (fun Kq hK => ?_) AllReadyH.nil
        refine tyK.step_build rfl zeroK 1 _ rfl [k] rfl (by omega) (by omega) (by kernel_rfl) ?_
        have f4 := Blk.new wq2 23 (cellsOf encK [k]).toArray
        refine hK.out _ _ (hS.alloc hS.size _) (fun hS => ?_)
        clear hK Kq
        simp only [Act.put, List.getElem_toArray, List.getElem_cons_zero, List.getElem_cons_succ, List.setIfInBounds_toArray, List.set_cons_succ, List.set_cons_zero]
        refine wpAnyH_ready (rs := [5]) (by kernel_rfl) (by simp) ?_
        refine AllReadyH.cons rfl (fun Kq hK => ?_) AllReadyH.nil
        refine tyK.step_append rfl zcK 32 zbK (by omega) (.tmp 24) (.tmp 26) rfl w1.heap.size _ ([] ++ l) rfl (own_alloc p2 _) _ (some ⟨wq2.heap.size, 0, none⟩) 1 [k] rfl (rowIn_blk (f4) (by simp) (by simp [maxLen])) (by have := LENa.out; simp; omega) hS.size ?_
        intro v9 w9 p9 g9
        have hS2 := hS.trans (own_grown (own_alloc p2 _) g9 hS.size)
        refine hK.out _ _ hS2 (fun hS => ?_)
        clear hK Kq hS2 g9
        simp only [Act.put, List.getElem_toArray, List.getElem_cons_zero, List.getElem_cons_succ, List.setIfInBounds_toArray, List.set_cons_succ, List.set_cons_zero]
        refine wpAnyH_ready (rs := [6]) (by kernel_rfl) (by simp) ?_
        refine AllReadyH.cons rfl (fun Kq hK => ?_) AllReadyH.nil
        go_simp
        refine hK.out _ _ hS (fun _ => ?_)
        clear hK Kq
        refine wpAnyH_done (by kernel_rfl) ?_ _
        obtain ⟨A9, c9, rfl, r9⟩ := RowIn.of_own encK_len (own_congr p9 (show ([] ++ l) ++ [k] = l ++ [k] by simp))
        clear p9
        go_wp2_with fail
        go_meet
        exact ⟨_, A9, c9, rfl, Lib.hid ⟨rfl, r9⟩, Lib.hid hS⟩
      · refine tyK.step_build rfl zeroK 1 _ rfl [k] rfl (by omega) (by omega) (by kernel_rfl) ?_
        have f4 := Blk.new (wd.alloc (.cells #[] 23)) 23 (cellsOf encK [k]).toArray
        refine hK.out _ _ (hS.alloc hS.size _) (fun hS => ?_)
        clear hK Kq
        simp only [Act.put, List.getElem_toArray, List.getElem_cons_zero, List.getElem_cons_succ, List.setIfInBounds_toArray, List.set_cons_succ, List.set_cons_zero]
        refine wpAnyH_ready (rs := [2]) (by kernel_rfl) (by simp) ?_
        refine AllReadyH.cons rfl (fun Kq hK => ?_) AllReadyH.nil
        refine tyK.step_append rfl zcK 32 zbK (by omega) (.tmp 22) (.tmp 23) rfl w1.heap.size _ [] rfl (own_alloc e1 _) w1.heap.size A c l (by show Value.slice A n c = _; rw [HN.out]) (HRDa.out _ hS) (by have := LENa.out; simp; omega) hS.size ?_
        intro v2 wq2 p2 g2
        have hS2 := hS.trans (own_grown (own_alloc e1 _) g2 hS.size)
        have f2 := blk_grown f4 g2 (by show some ((wd.alloc (.cells #[] 23)).heap.size) ≠ some (wd.heap.size); simp)
        refine hK.out _ _ hS2 (fun hS => ?_)
        clear hK Kq hS2 g2
        simp only [Act.put, List.getElem_toArray, List.getElem_cons_zero, List.getElem_cons_succ, List.setIfInBounds_toArray, List.set_cons_succ, List.set_cons_zero]
        refine wpAnyH_ready (rs := [5]) (by kernel_rfl) (by simp) ?_
        refine AllReadyH.cons rfl (fun Kq hK => ?_) AllReadyH.nil
        refine tyK.step_append rfl zcK 32 zbK (by omega) (.tmp 24) (.tmp 26) rfl w1.heap.size _ ([] ++ l) rfl (p2) _ (some ⟨(wd.alloc (.cells #[] 23)).heap.size, 0, none⟩) 1 [k] rfl (rowIn_blk (f2) (by simp) (by simp [maxLen])) (by have := LENa.out; simp; omega) hS.size ?_
        intro v9 w9 p9 g9
        have hS2 := hS.trans (own_grown (p2) g9 hS.size)
        refine hK.out _ _ hS2 (fun hS => ?_)
        clear hK Kq hS2 g9
        simp only [Act.put, List.getElem_toArray, List.getElem_cons_zero, List.getElem_cons_succ, List.setIfInBounds_toArray, List.set_cons_succ, List.set_cons_zero]
        refine wpAnyH_ready (rs := [6]) (by kernel_rfl) (by simp) ?_
        refine AllReadyH.cons rfl (fun Kq hK => ?_) AllReadyH.nil
        go_simp
        refine hK.out _ _ hS (fun _ => ?_)
        clear hK Kq
        refine wpAnyH_done (by kernel_rfl) ?_ _
        obtain ⟨A9, c9, rfl, r9⟩ := RowIn.of_own encK_len (own_congr p9 (show ([] ++ l) ++ [k] = l ++ [k] by simp))
        clear p9
        go_wp2_with fail
        go_meet
        exact ⟨_, A9, c9, rfl, Lib.hid ⟨rfl, r9⟩, Lib.hid hS⟩
    · refine tyK.step_build rfl zeroK 1 _ rfl [k] rfl (by omega) (by omega) (by kernel_rfl) ?_
      have f4 := Blk.new wd 23 (cellsOf encK [k]).toArray
      refine hK.out _ _ (hS.alloc hS.size _) (fun hS => ?_)
      clear hK Kq
      simp only [Act.put, List.getElem_toArray, List.getElem_cons_zero, List.getElem_cons_succ, List.setIfInBounds_toArray, List.set_cons_succ, List.set_cons_zero]
      refine wpAnyH_ready (rs := [0]) (by kernel_rfl) (by simp) ?_
      refine AllReadyH.cons rfl (fun Kq hK => ?_) AllReadyH.nil
      go_simp
      have e1 : ((wd.alloc (.cells (cellsOf encK [k]).toArray 23)).alloc (.cells #[] 23)).ownsRow w1.heap.size 23 32 (.slice (some ⟨wd.heap.size + 1, 0, none⟩) 0 0) ([] : List K32).length (cellsOf encK []) := own_nil (blk_new (w := (wd.alloc (.cells (cellsOf encK [k]).toArray 23))) 23 #[] (by simp)) (by have := hS.size; (try simp at this); omega)
      refine hK.out _ _ (hS.alloc hS.size _) (fun hS => ?_)
      clear hK Kq
      refine wpAnyH_ready (rs := [2]) (by kernel_rfl) (by simp) ?_
      refine AllReadyH.cons rfl (fun Kq hK => ?_) AllReadyH.nil
      refine tyK.step_append rfl zcK 32 zbK (by omega) (.tmp 22) (.tmp 23) rfl w1.heap.size _ [] rfl e1 w1.heap.size A c l (by show Value.slice A n c = _; rw [HN.out]) (HRDa.out _ hS) (by have := LENa.out; simp; omega) hS.size ?_
      intro v2 wq2 p2 g2
      have hS2 := hS.trans (own_grown e1 g2 hS.size)
      have f2 := blk_grown (f4.alloc _) g2 (by show some (wd.heap.size) ≠ some (wd.heap.size + 1); simp)
      refine hK.out _ _ hS2 (fun hS => ?_)
      clear hK Kq hS2 g2
      simp only [Act.put, List.getElem_toArray, List.getElem_cons_zero, List.getElem_cons_succ, List.setIfInBounds_toArray, List.set_cons_succ, List.set_cons_zero]
      refine wpAnyH_ready (rs := [5]) (by kernel_rfl) (by simp) ?_
      refine AllReadyH.cons rfl (fun Kq hK => ?_) AllReadyH.nil
      refine tyK.step_append rfl zcK 32 zbK (by omega) (.tmp 24) (.tmp 26) rfl w1.heap.size _ ([] ++ l) rfl (p2) _ (some ⟨wd.heap.size, 0, none⟩) 1 [k] rfl (rowIn_blk (f2) (by simp) (by simp [maxLen])) (by have := LENa.out; simp; omega) hS.size ?_
      intro v9 w9 p9 g9
      have hS2 := hS.trans (own_grown (p2) g9 hS.size)
      refine hK.out _ _ hS2 (fun hS => ?_)
      clear hK Kq hS2 g9
      simp only [Act.put, List.getElem_toArray, List.getElem_cons_zero, List.getElem_cons_succ, List.setIfInBounds_toArray, List.set_cons_succ, List.set_cons_zero]
      refine wpAnyH_ready (rs := [6]) (by kernel_rfl) (by simp) ?_
      refine AllReadyH.cons rfl (fun Kq hK => ?_) AllReadyH.nil
      go_simp
      refine hK.out _ _ hS (fun _ => ?_)
      clear hK Kq
      refine wpAnyH_done (by kernel_rfl) ?_ _
      obtain ⟨A9, c9, rfl, r9⟩ := RowIn.of_own encK_len (own_congr p9 (show ([] ++ l) ++ [k] = l ++ [k] by simp))
      clear p9
      go_wp2_with fail
      go_meet
      exact ⟨_, A9, c9, rfl, Lib.hid ⟨rfl, r9⟩, Lib.hid hS⟩
  case rest =>
    rename World => w2
    obtain ⟨m7, A7, c7, rfl, HR7, HB7⟩ := hcut
    have K2 := Lib.hid (below_blk HB7.out K1.out K1.out.lt)
    have B2 := Lib.hid (B1.out.trans (HB7.out.mono B1.out.size))
    have HRI2 := Lib.hid (HOR'.out w2 B2.out)
    clear K1 B1 HRI HB7
    go_wp2_with fail
    go_cut [8] from 28 (fun vx wc => ∃ (m8 : Nat) (A8 : Option Addr) (c8 : Nat), vx = .slice A8 m8 c8 ∧ Hid (m8 = (m ++ [k]).length ∧ RowIn encK 32 wc wc.heap.size A8 c8 (m ++ [k])) ∧ Hid (Below w2.heap.size w2 wc))
    case first =>
      have HRDb := Lib.hid (fun W (hW : Below w2.heap.size w2 W) => HRI2.out.below hW)
      have LENb := Lib.hid (show m.length ≤ 200 by rw [HN'.out]; omega)
      refine wp_region_held_drew (S := Below w2.heap.size w2) (by kernel_rfl) (Below.refl _ _).drew ?_
      intro hS
      generalize w2.drew = wd at hS ⊢
      refine wpAnyH_take (i := 1) (v := .slice A' n' c') rfl (by kernel_rfl) (by kernel_rfl) (by kernel_rfl) (fun _ _ _ h => h) (Or.inl ⟨by rfl, fun W _ => by go_simp; try with_reducible rfl⟩) hS ?_
      simp only [Act.put, List.getElem_toArray, List.getElem_cons_zero, List.getElem_cons_succ, List.setIfInBounds_toArray, List.set_cons_succ, List.set_cons_zero]
      refine wpAnyH_take (i := 3) (v := .agg (bytesA k.1)) rfl (by kernel_rfl) (by kernel_rfl) (by kernel_rfl) (fun _ _ _ h => h) (yieldsIf_load_row (by rfl) 23 (.tmp 5) rfl w.heap.size rfl 23 (bytesA k.1) _ (fun _ hW => below_blk hW K2.out K2.out.lt) Try.underlying23 rfl (szK k)) hS ?_
      simp only [Act.put, List.getElem_toArray, List.getElem_cons_zero, List.getElem_cons_succ, List.setIfInBounds_toArray, List.set_cons_succ, List.set_cons_zero]
      refine wpAnyH_ready (rs := [0, 4]) (by kernel_rfl) (by simp) ?_
      refine AllReadyH.cons rfl (fun Kq hK => ?_) (AllReadyH.cons rfl (fun Kq hK => ?_) AllReadyH.nil)
      · go_simp
        have e1 : (wd.alloc (.cells #[] 23)).ownsRow w2.heap.size 23 32 (.slice (some ⟨wd.heap.size, 0, none⟩) 0 0) ([] : List K32).length (cellsOf encK []) := own_nil (blk_new (w := wd) 23 #[] (by simp)) (by have := hS.size; (try simp at this); omega)
        refine hK.out _ _ (hS.alloc hS.size _) (fun hS => ?_)
        clear hK Kq
        refine wpAnyH_ready (rs := [2, 4]) (by kernel_rfl) (by simp) ?_
        refine AllReadyH.cons rfl (fun Kq hK => ?_) (AllReadyH.cons rfl (fun Kq hK => ?_) AllReadyH.nil)
        · refine tyK.step_append rfl zcK 32 zbK (by omega) (.tmp 28) (.tmp 29) rfl w2.heap.size _ [] rfl e1 w2.heap.size A' c' m (by show Value.slice A' n' c' = _; rw [HN'.out]) (HRDb.out _ hS) (by have := LENb.out; simp; omega) hS.size ?_
          intro v2 wq2 p2 g2
          have hS2 := hS.trans (own_grown e1 g2 hS.size)
          refine hK.out _ _ hS2 (fun hS => ?_)
          clear hK Kq hS2 g2
          simp only [Act.put, List.getElem_toArray, List.getElem_cons_zero, List.getElem_cons_succ, List.setIfInBounds_toArray, List.set_cons_succ, List.set_cons_zero]
          refine wpAnyH_ready (rs := [4]) (by kernel_rfl) (by simp) ?_
          refine AllReadyH.cons rfl (fun Kq hK => ?_) AllReadyH.nil
          refine tyK.step_build rfl zeroK 1 _ rfl [k] rfl (by omega) (by omega) (by kernel_rfl) ?_
          have f4 := Blk.new wq2 23 (cellsOf encK [k]).toArray
          refine hK.out _ _ (hS.alloc hS.size _) (fun hS => ?_)
          clear hK Kq
          simp only [Act.put, List.getElem_toArray, List.getElem_cons_zero, List.getElem_cons_succ, List.setIfInBounds_toArray, List.set_cons_succ, List.set_cons_zero]
          refine wpAnyH_ready (rs := [5]) (by kernel_rfl) (by simp) ?_
          refine AllReadyH.cons rfl (fun Kq hK => ?_) AllReadyH.nil
          refine tyK.step_append rfl zcK 32 zbK (by omega) (.tmp 30) (.tmp 32) rfl w2.heap.size _ ([] ++ m) rfl (own_alloc p2 _) _ (some ⟨wq2.heap.size, 0, none⟩) 1 [k] rfl (rowIn_blk (f4) (by simp) (by simp [maxLen])) (by have := LENb.out; simp; omega) hS.size ?_
          intro v9 w9 p9 g9
          have hS2 := hS.trans (own_grown (own_alloc p2 _) g9 hS.size)
          refine hK.out _ _ hS2 (fun hS => ?_)
          clear hK Kq hS2 g9
          simp only [Act.put, List.getElem_toArray, List.getElem_cons_zero, List.getElem_cons_succ, List.setIfInBounds_toArray, List.set_cons_succ, List.set_cons_zero]
          refine wpAnyH_ready (rs := [6]) (by kernel_rfl) (by simp) ?_
          refine AllReadyH.cons rfl (fun Kq hK => ?_) AllReadyH.nil
          go_simp
          refine hK.out _ _ hS (fun _ => ?_)
          clear hK Kq
          refine wpAnyH_done (by kernel_rfl) ?_ _
          obtain ⟨A9, c9, rfl, r9⟩ := RowIn.of_own encK_len (own_congr p9 (show ([] ++ m) ++ [k] = m ++ [k] by simp))
          clear p9
          go_wp2_with fail
          go_meet
          exact ⟨_, A9, c9, rfl, Lib.hid ⟨rfl, r9⟩, Lib.hid hS⟩
        · refine tyK.step_build rfl zeroK 1 _ rfl [k] rfl (by omega) (by omega) (by kernel_rfl) ?_
          have f4 := Blk.new (wd.alloc (.cells #[] 23)) 23 (cellsOf encK [k]).toArray
          refine hK.out _ _ (hS.alloc hS.size _) (fun hS => ?_)
          clear hK Kq
          simp only [Act.put, List.getElem_toArray, List.getElem_cons_zero, List.getElem_cons_succ, List.setIfInBounds_toArray, List.set_cons_succ, List.set_cons_zero]
          refine wpAnyH_ready (rs := [2]) (by kernel_rfl) (by simp) ?_
          refine AllReadyH.cons rfl (fun Kq hK => ?_) AllReadyH.nil
          refine tyK.step_append rfl zcK 32 zbK (by omega) (.tmp 28) (.tmp 29) rfl w2.heap.size _ [] rfl (own_alloc e1 _) w2.heap.size A' c' m (by show Value.slice A' n' c' = _; rw [HN'.out]) (HRDb.out _ hS) (by have := LENb.out; simp; omega) hS.size ?_
          intro v2 wq2 p2 g2
          have hS2 := hS.trans (own_grown (own_alloc e1 _) g2 hS.size)
          have f2 := blk_grown f4 g2 (by show some ((wd.alloc (.cells #[] 23)).heap.size) ≠ some (wd.heap.size); simp)
          refine hK.out _ _ hS2 (fun hS => ?_)
          clear hK Kq hS2 g2
          simp only [Act.put, List.getElem_toArray, List.getElem_cons_zero, List.getElem_cons_succ, List.setIfInBounds_toArray, List.set_cons_succ, List.set_cons_zero]
          refine wpAnyH_ready (rs := [5]) (by kernel_rfl) (by simp) ?_
          refine AllReadyH.cons rfl (fun Kq hK => ?_) AllReadyH.nil
          refine tyK.step_append rfl zcK 32 zbK (by omega) (.tmp 30) (.tmp 32) rfl w2.heap.size _ ([] ++ m) rfl (p2) _ (some ⟨(wd.alloc (.cells #[] 23)).heap.size, 0, none⟩) 1 [k] rfl (rowIn_blk (f2) (by simp) (by simp [maxLen])) (by have := LENb.out; simp; omega) hS.size ?_
          intro v9 w9 p9 g9
          have hS2 := hS.trans (own_grown (p2) g9 hS.size)
          refine hK.out _ _ hS2 (fun hS => ?_)
          clear hK Kq hS2 g9
          simp only [Act.put, List.getElem_toArray, List.getElem_cons_zero, List.getElem_cons_succ, List.setIfInBounds_toArray, List.set_cons_succ, List.set_cons_zero]
          refine wpAnyH_ready (rs := [6]) (by kernel_rfl) (by simp) ?_
          refine AllReadyH.cons rfl (fun Kq hK => ?_) AllReadyH.nil
          go_simp
          refine hK.out _ _ hS (fun _ => ?_)
          clear hK Kq
          refine wpAnyH_done (by kernel_rfl) ?_ _
          obtain ⟨A9, c9, rfl, r9⟩ := RowIn.of_own encK_len (own_congr p9 (show ([] ++ m) ++ [k] = m ++ [k] by simp))
          clear p9
          go_wp2_with fail
          go_meet
          exact ⟨_, A9, c9, rfl, Lib.hid ⟨rfl, r9⟩, Lib.hid hS⟩
      · refine tyK.step_build rfl zeroK 1 _ rfl [k] rfl (by omega) (by omega) (by kernel_rfl) ?_
        have f4 := Blk.new wd 23 (cellsOf encK [k]).toArray
        refine hK.out _ _ (hS.alloc hS.size _) (fun hS => ?_)
        clear hK Kq
        simp only [Act.put, List.getElem_toArray, List.getElem_cons_zero, List.getElem_cons_succ, List.setIfInBounds_toArray, List.set_cons_succ, List.set_cons_zero]
        refine wpAnyH_ready (rs := [0]) (by kernel_rfl) (by simp) ?_
        refine AllReadyH.cons rfl (fun Kq hK => ?_) AllReadyH.nil
        go_simp
        have e1 : ((wd.alloc (.cells (cellsOf encK [k]).toArray 23)).alloc (.cells #[] 23)).ownsRow w2.heap.size 23 32 (.slice (some ⟨wd.heap.size + 1, 0, none⟩) 0 0) ([] : List K32).length (cellsOf encK []) := own_nil (blk_new (w := (wd.alloc (.cells (cellsOf encK [k]).toArray 23))) 23 #[] (by simp)) (by have := hS.size; (try simp at this); omega)
        refine hK.out _ _ (hS.alloc hS.size _) (fun hS => ?_)
        clear hK Kq
        refine wpAnyH_ready (rs := [2]) (by kernel_rfl) (by simp) ?_
        refine AllReadyH.cons rfl (fun Kq hK => ?_) AllReadyH.nil
        refine tyK.step_append rfl zcK 32 zbK (by omega) (.tmp 28) (.tmp 29) rfl w2.heap.size _ [] rfl e1 w2.heap.size A' c' m (by show Value.slice A' n' c' = _; rw [HN'.out]) (HRDb.out _ hS) (by have := LENb.out; simp; omega) hS.size ?_
        intro v2 wq2 p2 g2
        have hS2 := hS.trans (own_grown e1 g2 hS.size)
        have f2 := blk_grown (f4.alloc _) g2 (by show some (wd.heap.size) ≠ some (wd.heap.size + 1); simp)
        refine hK.out _ _ hS2 (fun hS => ?_)
        clear hK Kq hS2 g2
        simp only [Act.put, List.getElem_toArray, List.getElem_cons_zero, List.getElem_cons_succ, List.setIfInBounds_toArray, List.set_cons_succ, List.set_cons_zero]
        refine wpAnyH_ready (rs := [5]) (by kernel_rfl) (by simp) ?_
        refine AllReadyH.cons rfl (fun Kq hK => ?_) AllReadyH.nil
        refine tyK.step_append rfl zcK 32 zbK (by omega) (.tmp 30) (.tmp 32) rfl w2.heap.size _ ([] ++ m) rfl (p2) _ (some ⟨wd.heap.size, 0, none⟩) 1 [k] rfl (rowIn_blk (f2) (by simp) (by simp [maxLen])) (by have := LENb.out; simp; omega) hS.size ?_
        intro v9 w9 p9 g9
        have hS2 := hS.trans (own_grown (p2) g9 hS.size)
        refine hK.out _ _ hS2 (fun hS => ?_)
        clear hK Kq hS2 g9
        simp only [Act.put, List.getElem_toArray, List.getElem_cons_zero, List.getElem_cons_succ, List.setIfInBounds_toArray, List.set_cons_succ, List.set_cons_zero]
        refine wpAnyH_ready (rs := [6]) (by kernel_rfl) (by simp) ?_
        refine AllReadyH.cons rfl (fun Kq hK => ?_) AllReadyH.nil
        go_simp
        refine hK.out _ _ hS (fun _ => ?_)
        clear hK Kq
        refine wpAnyH_done (by kernel_rfl) ?_ _
        obtain ⟨A9, c9, rfl, r9⟩ := RowIn.of_own encK_len (own_congr p9 (show ([] ++ m) ++ [k] = m ++ [k] by simp))
        clear p9
        go_wp2_with fail
        go_meet
        exact ⟨_, A9, c9, rfl, Lib.hid ⟨rfl, r9⟩, Lib.hid hS⟩
    case rest =>
      rename World => w3
      obtain ⟨m8, A8, c8, rfl, HR8, HB8⟩ := hcut
      have K3 := Lib.hid (below_blk HB8.out K2.out K2.out.lt)
      have B3 := Lib.hid (B2.out.trans (HB8.out.mono B2.out.size))
      have R7 := Lib.hid ((HR7.out.2.below HB8.out).more HB8.out.size)
      have HL1 := Lib.hid (show (l ++ [k]).length ≤ 201 by rw [List.length_append, HN.out]; simp; omega)
      have HL2 := Lib.hid (show (m ++ [k]).length ≤ 201 by rw [List.length_append, HN'.out]; simp; omega)
      have HMX := Lib.hid (fun W (hW : Below w3.heap.size w3 W) => meet_any A7 c7 (l ++ [k]) A8 c8 (m ++ [k]) w3.heap.size (by have := HL1.out; omega) (by have := HL2.out; omega) W hW.size (R7.out.below hW) (HR8.out.2.below hW))
      have HXM := Lib.hid (fun W (hW : Below w3.heap.size w3 W) => meet_any A7 c7 (l ++ [k]) A' c' m w3.heap.size (by have := HL1.out; omega) (by rw [HN'.out]; omega) W hW.size (R7.out.below hW) ((HOR'.out w3 B3.out).below hW))
      rw [meetF_both, ← HR7.out.1, ← HR8.out.1] at HMX
      rw [HX.out, ← HR7.out.1, HN'.out] at HXM
      have HC := Lib.hid (show Below w3.heap.size w3 w3 from Below.refl _ _)
      clear K2 B2 HRI2 HB8 HR7 HR8 R7
      go_wp2_with (first
        | ((with_reducible refine at_loadg 5 ?_); refine wpList_load_rowg (by rfl) 23 (.tmp 5) rfl w.heap.size rfl 23 (bytesA k.1) _ (below_blk HC.out K3.out K3.out.lt) Try.underlying23 rfl (szK k) ?_)
        | (go_at_call 24; (first | with_reducible refine (HM1.out _ (B3.out.trans (HC.out.mono B3.out.size))).mono ?_ | with_reducible refine (HM2.out _ (B3.out.trans (HC.out.mono B3.out.size))).mono ?_ | with_reducible refine (HMX.out _ HC.out).mono ?_ | with_reducible refine (HXM.out _ HC.out).mono ?_); rintro e w4 ⟨rfl, b4⟩; replace HC := Lib.hid (HC.out.trans (b4.mono HC.out.size)); clear b4)
        | (go_at_call 23; with_reducible refine (HHAS.out _ (B3.out.trans (HC.out.mono B3.out.size))).mono ?_; rintro e w4 ⟨rfl, b4⟩; replace HC := Lib.hid (HC.out.trans (b4.mono HC.out.size)); clear b4))
      go_ret
      exact ⟨rfl, B3.out.trans (HC.out.mono B3.out.size)⟩
set_option maxHeartbeats 8000000 in
theorem kmeets3 (A : Option Addr) (c : Nat) (l : List K32) (A' : Option Addr) (c' : Nat) (m : List K32) (k : K32) (hl : l.length ≤ 200) (hm : m.length ≤ 200) (hM : meetF l m = false) (hX : meetF (l ++ [k]) m = true) (_hK : decide (k ∈ m) = true) (w : World) (h : RowIn encK 32 w w.heap.size A c l) (h' : RowIn encK 32 w w.heap.size A' c' m) :
    Calls Try.prog 7 #[.slice A l.length c, .slice A' m.length c', .agg (bytesA k.1)] w fun e w' => e = .returned (.bool true) ∧ Below w.heap.size w w' := by
  have K0 := Lib.hid (Blk.new w 23 (bytesA k.1))
  have B0 := Lib.hid (show Below w.heap.size w (w.alloc (.cells (bytesA k.1) 23)) from (Below.refl _ _).alloc (Nat.le_refl _) _)
  have HOR := Lib.hid (fun W (hW : Below w.heap.size w W) => (h.below hW).more hW.size)
  have HOR' := Lib.hid (fun W (hW : Below w.heap.size w W) => (h'.below hW).more hW.size)
  have HM1 := Lib.hid (fun W (hW : Below w.heap.size w W) => meet_any A c l A' c' m w.heap.size (by omega) (by omega) W hW.size (h.below hW) (h'.below hW))
  have HM2 := Lib.hid (fun W (hW : Below w.heap.size w W) => meet_any A' c' m A c l w.heap.size (by omega) (by omega) W hW.size (h'.below hW) (h.below hW))
  have HHAS := Lib.hid (fun W (hW : Below w.heap.size w W) => refHas_any A' c' m k w.heap.size W (by omega) hW.size (h'.below hW))
  rw [hM] at HM1
  rw [meetF_comm, hM] at HM2
  rw [_hK] at HHAS
  have HX := Lib.hid hX
  clear hM hX _hK h h'
  obtain ⟨n, hn⟩ : ∃ n, l.length = n := ⟨_, rfl⟩
  obtain ⟨n', hn'⟩ : ∃ n, m.length = n := ⟨_, rfl⟩
  rw [hn, hn'] at HM1 HM2
  rw [hn'] at HHAS
  rw [hn] at hl
  rw [hn'] at hm
  rw [hn, hn']
  have HN := Lib.hid hn
  have HN' := Lib.hid hn'
  clear hn hn'
  have d0 : decide ((200 : Int) < (n : Int)) = false := decide_eq_false (by omega)
  have d1 : decide ((200 : Int) < (n' : Int)) = false := decide_eq_false (by omega)
  go_enter Try.func7, Try.ntmps7
  go_wp2_with (go_at_call 10; refine (shown_any _).mono ?_; rintro e w1 ⟨rfl, b1⟩; have K1 := Lib.hid (below_blk b1 K0.out K0.out.lt); have B1 := Lib.hid (B0.out.trans (b1.mono B0.out.size)); clear b1)
  have HRI := Lib.hid (HOR.out w1 B1.out)
  go_cut [7] from 22 (fun vx wc => ∃ (m7 : Nat) (A7 : Option Addr) (c7 : Nat), vx = .slice A7 m7 c7 ∧ Hid (m7 = (l ++ [k]).length ∧ RowIn encK 32 wc wc.heap.size A7 c7 (l ++ [k])) ∧ Hid (Below w1.heap.size w1 wc))
  case first =>
    have HRDa := Lib.hid (fun W (hW : Below w1.heap.size w1 W) => HRI.out.below hW)
    have LENa := Lib.hid (show l.length ≤ 200 by rw [HN.out]; omega)
    refine wp_region_held_drew (S := Below w1.heap.size w1) (by kernel_rfl) (Below.refl _ _).drew ?_
    intro hS
    generalize w1.drew = wd at hS ⊢
    refine wpAnyH_take (i := 1) (v := .slice A n c) rfl (by kernel_rfl) (by kernel_rfl) (by kernel_rfl) (fun _ _ _ h => h) (Or.inl ⟨by rfl, fun W _ => by go_simp; try with_reducible rfl⟩) hS ?_
    simp only [Act.put, List.getElem_toArray, List.getElem_cons_zero, List.getElem_cons_succ, List.setIfInBounds_toArray, List.set_cons_succ, List.set_cons_zero]
    refine wpAnyH_take (i := 3) (v := .agg (bytesA k.1)) rfl (by kernel_rfl) (by kernel_rfl) (by kernel_rfl) (fun _ _ _ h => h) (yieldsIf_load_row (by rfl) 23 (.tmp 5) rfl w.heap.size rfl 23 (bytesA k.1) _ (fun _ hW => below_blk hW K1.out K1.out.lt) Try.underlying23 rfl (szK k)) hS ?_
    simp only [Act.put, List.getElem_toArray, List.getElem_cons_zero, List.getElem_cons_succ, List.setIfInBounds_toArray, List.set_cons_succ, List.set_cons_zero]
    refine wpAnyH_ready (rs := [0, 4]) (by kernel_rfl) (by simp) ?_
    refine AllReadyH.cons rfl (fun Kq hK => ?_) (AllReadyH.cons rfl (fun Kq hK => ?_) AllReadyH.nil)
    · go_simp
      have e1 : (wd.alloc (.cells #[] 23)).ownsRow w1.heap.size 23 32 (.slice (some ⟨wd.heap.size, 0, none⟩) 0 0) ([] : List K32).length (cellsOf encK []) := own_nil (blk_new (w := wd) 23 #[] (by simp)) (by have := hS.size; (try simp at this); omega)
      refine hK.out _ _ (hS.alloc hS.size _) (fun hS => ?_)
      clear hK Kq
      refine wpAnyH_ready (rs := [2, 4]) (by kernel_rfl) (by simp) ?_
      refine AllReadyH.cons rfl (fun Kq hK => ?_) (AllReadyH.cons rfl (fun Kq hK => ?_) AllReadyH.nil)
      · refine tyK.step_append rfl zcK 32 zbK (by omega) (.tmp 22) (.tmp 23) rfl w1.heap.size _ [] rfl e1 w1.heap.size A c l (by show Value.slice A n c = _; rw [HN.out]) (HRDa.out _ hS) (by have := LENa.out; simp; omega) hS.size ?_
        intro v2 wq2 p2 g2
        have hS2 := hS.trans (own_grown e1 g2 hS.size)
        refine hK.out _ _ hS2 (fun hS => ?_)
        clear hK Kq hS2 g2
        simp only [Act.put, List.getElem_toArray, List.getElem_cons_zero, List.getElem_cons_succ, List.setIfInBounds_toArray, List.set_cons_succ, List.set_cons_zero]
        refine wpAnyH_ready (rs := [4]) (by kernel_rfl) (by simp) ?_
        refine AllReadyH.cons rfl (fun Kq hK => ?_) AllReadyH.nil
        refine tyK.step_build rfl zeroK 1 _ rfl [k] rfl (by omega) (by omega) (by kernel_rfl) ?_
        have f4 := Blk.new wq2 23 (cellsOf encK [k]).toArray
        refine hK.out _ _ (hS.alloc hS.size _) (fun hS => ?_)
        clear hK Kq
        simp only [Act.put, List.getElem_toArray, List.getElem_cons_zero, List.getElem_cons_succ, List.setIfInBounds_toArray, List.set_cons_succ, List.set_cons_zero]
        refine wpAnyH_ready (rs := [5]) (by kernel_rfl) (by simp) ?_
        refine AllReadyH.cons rfl (fun Kq hK => ?_) AllReadyH.nil
        refine tyK.step_append rfl zcK 32 zbK (by omega) (.tmp 24) (.tmp 26) rfl w1.heap.size _ ([] ++ l) rfl (own_alloc p2 _) _ (some ⟨wq2.heap.size, 0, none⟩) 1 [k] rfl (rowIn_blk (f4) (by simp) (by simp [maxLen])) (by have := LENa.out; simp; omega) hS.size ?_
        intro v9 w9 p9 g9
        have hS2 := hS.trans (own_grown (own_alloc p2 _) g9 hS.size)
        refine hK.out _ _ hS2 (fun hS => ?_)
        clear hK Kq hS2 g9
        simp only [Act.put, List.getElem_toArray, List.getElem_cons_zero, List.getElem_cons_succ, List.setIfInBounds_toArray, List.set_cons_succ, List.set_cons_zero]
        refine wpAnyH_ready (rs := [6]) (by kernel_rfl) (by simp) ?_
        refine AllReadyH.cons rfl (fun Kq hK => ?_) AllReadyH.nil
        go_simp
        refine hK.out _ _ hS (fun _ => ?_)
        clear hK Kq
        refine wpAnyH_done (by kernel_rfl) ?_ _
        obtain ⟨A9, c9, rfl, r9⟩ := RowIn.of_own encK_len (own_congr p9 (show ([] ++ l) ++ [k] = l ++ [k] by simp))
        clear p9
        go_wp2_with fail
        go_meet
        exact ⟨_, A9, c9, rfl, Lib.hid ⟨rfl, r9⟩, Lib.hid hS⟩
      · refine tyK.step_build rfl zeroK 1 _ rfl [k] rfl (by omega) (by omega) (by kernel_rfl) ?_
        have f4 := Blk.new (wd.alloc (.cells #[] 23)) 23 (cellsOf encK [k]).toArray
        refine hK.out _ _ (hS.alloc hS.size _) (fun hS => ?_)
        clear hK Kq
        simp only [Act.put, List.getElem_toArray, List.getElem_cons_zero, List.getElem_cons_succ, List.setIfInBounds_toArray, List.set_cons_succ, List.set_cons_zero]
        refine wpAnyH_ready (rs := [2]) (by kernel_rfl) (by simp) ?_
        refine AllReadyH.cons rfl (fun Kq hK => ?_) AllReadyH.nil
        refine tyK.step_append rfl zcK 32 zbK (by omega) (.tmp 22) (.tmp 23) rfl w1.heap.size _ [] rfl (own_alloc e1 _) w1.heap.size A c l (by show Value.slice A n c = _; rw [HN.out]) (HRDa.out _ hS) (by have := LENa.out; simp; omega) hS.size ?_
        intro v2 wq2 p2 g2
        have hS2 := hS.trans (own_grown (own_alloc e1 _) g2 hS.size)
        have f2 := blk_grown f4 g2 (by show some ((wd.alloc (.cells #[] 23)).heap.size) ≠ some (wd.heap.size); simp)
        refine hK.out _ _ hS2 (fun hS => ?_)
        clear hK Kq hS2 g2
        simp only [Act.put, List.getElem_toArray, List.getElem_cons_zero, List.getElem_cons_succ, List.setIfInBounds_toArray, List.set_cons_succ, List.set_cons_zero]
        refine wpAnyH_ready (rs := [5]) (by kernel_rfl) (by simp) ?_
        refine AllReadyH.cons rfl (fun Kq hK => ?_) AllReadyH.nil
        refine tyK.step_append rfl zcK 32 zbK (by omega) (.tmp 24) (.tmp 26) rfl w1.heap.size _ ([] ++ l) rfl (p2) _ (some ⟨(wd.alloc (.cells #[] 23)).heap.size, 0, none⟩) 1 [k] rfl (rowIn_blk (f2) (by simp) (by simp [maxLen])) (by have := LENa.out; simp; omega) hS.size ?_
        intro v9 w9 p9 g9
        have hS2 := hS.trans (own_grown (p2) g9 hS.size)
        refine hK.out _ _ hS2 (fun hS => ?_)
        clear hK Kq hS2 g9
        simp only [Act.put, List.getElem_toArray, List.getElem_cons_zero, List.getElem_cons_succ, List.setIfInBounds_toArray, List.set_cons_succ, List.set_cons_zero]
        refine wpAnyH_ready (rs := [6]) (by kernel_rfl) (by simp) ?_
        refine AllReadyH.cons rfl (fun Kq hK => ?_) AllReadyH.nil
        go_simp
        refine hK.out _ _ hS (fun _ => ?_)
        clear hK Kq
        refine wpAnyH_done (by kernel_rfl) ?_ _
        obtain ⟨A9, c9, rfl, r9⟩ := RowIn.of_own encK_len (own_congr p9 (show ([] ++ l) ++ [k] = l ++ [k] by simp))
        clear p9
        go_wp2_with fail
        go_meet
        exact ⟨_, A9, c9, rfl, Lib.hid ⟨rfl, r9⟩, Lib.hid hS⟩
    · refine tyK.step_build rfl zeroK 1 _ rfl [k] rfl (by omega) (by omega) (by kernel_rfl) ?_
      have f4 := Blk.new wd 23 (cellsOf encK [k]).toArray
      refine hK.out _ _ (hS.alloc hS.size _) (fun hS => ?_)
      clear hK Kq
      simp only [Act.put, List.getElem_toArray, List.getElem_cons_zero, List.getElem_cons_succ, List.setIfInBounds_toArray, List.set_cons_succ, List.set_cons_zero]
      refine wpAnyH_ready (rs := [0]) (by kernel_rfl) (by simp) ?_
      refine AllReadyH.cons rfl (fun Kq hK => ?_) AllReadyH.nil
      go_simp
      have e1 : ((wd.alloc (.cells (cellsOf encK [k]).toArray 23)).alloc (.cells #[] 23)).ownsRow w1.heap.size 23 32 (.slice (some ⟨wd.heap.size + 1, 0, none⟩) 0 0) ([] : List K32).length (cellsOf encK []) := own_nil (blk_new (w := (wd.alloc (.cells (cellsOf encK [k]).toArray 23))) 23 #[] (by simp)) (by have := hS.size; (try simp at this); omega)
      refine hK.out _ _ (hS.alloc hS.size _) (fun hS => ?_)
      clear hK Kq
      refine wpAnyH_ready (rs := [2]) (by kernel_rfl) (by simp) ?_
      refine AllReadyH.cons rfl (fun Kq hK => ?_) AllReadyH.nil
      refine tyK.step_append rfl zcK 32 zbK (by omega) (.tmp 22) (.tmp 23) rfl w1.heap.size _ [] rfl e1 w1.heap.size A c l (by show Value.slice A n c = _; rw [HN.out]) (HRDa.out _ hS) (by have := LENa.out; simp; omega) hS.size ?_
      intro v2 wq2 p2 g2
      have hS2 := hS.trans (own_grown e1 g2 hS.size)
      have f2 := blk_grown (f4.alloc _) g2 (by show some (wd.heap.size) ≠ some (wd.heap.size + 1); simp)
      refine hK.out _ _ hS2 (fun hS => ?_)
      clear hK Kq hS2 g2
      simp only [Act.put, List.getElem_toArray, List.getElem_cons_zero, List.getElem_cons_succ, List.setIfInBounds_toArray, List.set_cons_succ, List.set_cons_zero]
      refine wpAnyH_ready (rs := [5]) (by kernel_rfl) (by simp) ?_
      refine AllReadyH.cons rfl (fun Kq hK => ?_) AllReadyH.nil
      refine tyK.step_append rfl zcK 32 zbK (by omega) (.tmp 24) (.tmp 26) rfl w1.heap.size _ ([] ++ l) rfl (p2) _ (some ⟨wd.heap.size, 0, none⟩) 1 [k] rfl (rowIn_blk (f2) (by simp) (by simp [maxLen])) (by have := LENa.out; simp; omega) hS.size ?_
      intro v9 w9 p9 g9
      have hS2 := hS.trans (own_grown (p2) g9 hS.size)
      refine hK.out _ _ hS2 (fun hS => ?_)
      clear hK Kq hS2 g9
      simp only [Act.put, List.getElem_toArray, List.getElem_cons_zero, List.getElem_cons_succ, List.setIfInBounds_toArray, List.set_cons_succ, List.set_cons_zero]
      refine wpAnyH_ready (rs := [6]) (by kernel_rfl) (by simp) ?_
      refine AllReadyH.cons rfl (fun Kq hK => ?_) AllReadyH.nil
      go_simp
      refine hK.out _ _ hS (fun _ => ?_)
      clear hK Kq
      refine wpAnyH_done (by kernel_rfl) ?_ _
      obtain ⟨A9, c9, rfl, r9⟩ := RowIn.of_own encK_len (own_congr p9 (show ([] ++ l) ++ [k] = l ++ [k] by simp))
      clear p9
      go_wp2_with fail
      go_meet
      exact ⟨_, A9, c9, rfl, Lib.hid ⟨rfl, r9⟩, Lib.hid hS⟩
  case rest =>
    rename World => w2
    obtain ⟨m7, A7, c7, rfl, HR7, HB7⟩ := hcut
    have K2 := Lib.hid (below_blk HB7.out K1.out K1.out.lt)
    have B2 := Lib.hid (B1.out.trans (HB7.out.mono B1.out.size))
    have HRI2 := Lib.hid (HOR'.out w2 B2.out)
    clear K1 B1 HRI HB7
    go_wp2_with fail
    go_cut [8] from 28 (fun vx wc => ∃ (m8 : Nat) (A8 : Option Addr) (c8 : Nat), vx = .slice A8 m8 c8 ∧ Hid (m8 = (m ++ [k]).length ∧ RowIn encK 32 wc wc.heap.size A8 c8 (m ++ [k])) ∧ Hid (Below w2.heap.size w2 wc))
    case first =>
      have HRDb := Lib.hid (fun W (hW : Below w2.heap.size w2 W) => HRI2.out.below hW)
      have LENb := Lib.hid (show m.length ≤ 200 by rw [HN'.out]; omega)
      refine wp_region_held_drew (S := Below w2.heap.size w2) (by kernel_rfl) (Below.refl _ _).drew ?_
      intro hS
      generalize w2.drew = wd at hS ⊢
      refine wpAnyH_take (i := 1) (v := .slice A' n' c') rfl (by kernel_rfl) (by kernel_rfl) (by kernel_rfl) (fun _ _ _ h => h) (Or.inl ⟨by rfl, fun W _ => by go_simp; try with_reducible rfl⟩) hS ?_
      simp only [Act.put, List.getElem_toArray, List.getElem_cons_zero, List.getElem_cons_succ, List.setIfInBounds_toArray, List.set_cons_succ, List.set_cons_zero]
      refine wpAnyH_take (i := 3) (v := .agg (bytesA k.1)) rfl (by kernel_rfl) (by kernel_rfl) (by kernel_rfl) (fun _ _ _ h => h) (yieldsIf_load_row (by rfl) 23 (.tmp 5) rfl w.heap.size rfl 23 (bytesA k.1) _ (fun _ hW => below_blk hW K2.out K2.out.lt) Try.underlying23 rfl (szK k)) hS ?_
      simp only [Act.put, List.getElem_toArray, List.getElem_cons_zero, List.getElem_cons_succ, List.setIfInBounds_toArray, List.set_cons_succ, List.set_cons_zero]
      refine wpAnyH_ready (rs := [0, 4]) (by kernel_rfl) (by simp) ?_
      refine AllReadyH.cons rfl (fun Kq hK => ?_) (AllReadyH.cons rfl (fun Kq hK => ?_) AllReadyH.nil)
      · go_simp
        have e1 : (wd.alloc (.cells #[] 23)).ownsRow w2.heap.size 23 32 (.slice (some ⟨wd.heap.size, 0, none⟩) 0 0) ([] : List K32).length (cellsOf encK []) := own_nil (blk_new (w := wd) 23 #[] (by simp)) (by have := hS.size; (try simp at this); omega)
        refine hK.out _ _ (hS.alloc hS.size _) (fun hS => ?_)
        clear hK Kq
        refine wpAnyH_ready (rs := [2, 4]) (by kernel_rfl) (by simp) ?_
        refine AllReadyH.cons rfl (fun Kq hK => ?_) (AllReadyH.cons rfl (fun Kq hK => ?_) AllReadyH.nil)
        · refine tyK.step_append rfl zcK 32 zbK (by omega) (.tmp 28) (.tmp 29) rfl w2.heap.size _ [] rfl e1 w2.heap.size A' c' m (by show Value.slice A' n' c' = _; rw [HN'.out]) (HRDb.out _ hS) (by have := LENb.out; simp; omega) hS.size ?_
          intro v2 wq2 p2 g2
          have hS2 := hS.trans (own_grown e1 g2 hS.size)
          refine hK.out _ _ hS2 (fun hS => ?_)
          clear hK Kq hS2 g2
          simp only [Act.put, List.getElem_toArray, List.getElem_cons_zero, List.getElem_cons_succ, List.setIfInBounds_toArray, List.set_cons_succ, List.set_cons_zero]
          refine wpAnyH_ready (rs := [4]) (by kernel_rfl) (by simp) ?_
          refine AllReadyH.cons rfl (fun Kq hK => ?_) AllReadyH.nil
          refine tyK.step_build rfl zeroK 1 _ rfl [k] rfl (by omega) (by omega) (by kernel_rfl) ?_
          have f4 := Blk.new wq2 23 (cellsOf encK [k]).toArray
          refine hK.out _ _ (hS.alloc hS.size _) (fun hS => ?_)
          clear hK Kq
          simp only [Act.put, List.getElem_toArray, List.getElem_cons_zero, List.getElem_cons_succ, List.setIfInBounds_toArray, List.set_cons_succ, List.set_cons_zero]
          refine wpAnyH_ready (rs := [5]) (by kernel_rfl) (by simp) ?_
          refine AllReadyH.cons rfl (fun Kq hK => ?_) AllReadyH.nil
          refine tyK.step_append rfl zcK 32 zbK (by omega) (.tmp 30) (.tmp 32) rfl w2.heap.size _ ([] ++ m) rfl (own_alloc p2 _) _ (some ⟨wq2.heap.size, 0, none⟩) 1 [k] rfl (rowIn_blk (f4) (by simp) (by simp [maxLen])) (by have := LENb.out; simp; omega) hS.size ?_
          intro v9 w9 p9 g9
          have hS2 := hS.trans (own_grown (own_alloc p2 _) g9 hS.size)
          refine hK.out _ _ hS2 (fun hS => ?_)
          clear hK Kq hS2 g9
          simp only [Act.put, List.getElem_toArray, List.getElem_cons_zero, List.getElem_cons_succ, List.setIfInBounds_toArray, List.set_cons_succ, List.set_cons_zero]
          refine wpAnyH_ready (rs := [6]) (by kernel_rfl) (by simp) ?_
          refine AllReadyH.cons rfl (fun Kq hK => ?_) AllReadyH.nil
          go_simp
          refine hK.out _ _ hS (fun _ => ?_)
          clear hK Kq
          refine wpAnyH_done (by kernel_rfl) ?_ _
          obtain ⟨A9, c9, rfl, r9⟩ := RowIn.of_own encK_len (own_congr p9 (show ([] ++ m) ++ [k] = m ++ [k] by simp))
          clear p9
          go_wp2_with fail
          go_meet
          exact ⟨_, A9, c9, rfl, Lib.hid ⟨rfl, r9⟩, Lib.hid hS⟩
        · refine tyK.step_build rfl zeroK 1 _ rfl [k] rfl (by omega) (by omega) (by kernel_rfl) ?_
          have f4 := Blk.new (wd.alloc (.cells #[] 23)) 23 (cellsOf encK [k]).toArray
          refine hK.out _ _ (hS.alloc hS.size _) (fun hS => ?_)
          clear hK Kq
          simp only [Act.put, List.getElem_toArray, List.getElem_cons_zero, List.getElem_cons_succ, List.setIfInBounds_toArray, List.set_cons_succ, List.set_cons_zero]
          refine wpAnyH_ready (rs := [2]) (by kernel_rfl) (by simp) ?_
          refine AllReadyH.cons rfl (fun Kq hK => ?_) AllReadyH.nil
          refine tyK.step_append rfl zcK 32 zbK (by omega) (.tmp 28) (.tmp 29) rfl w2.heap.size _ [] rfl (own_alloc e1 _) w2.heap.size A' c' m (by show Value.slice A' n' c' = _; rw [HN'.out]) (HRDb.out _ hS) (by have := LENb.out; simp; omega) hS.size ?_
          intro v2 wq2 p2 g2
          have hS2 := hS.trans (own_grown (own_alloc e1 _) g2 hS.size)
          have f2 := blk_grown f4 g2 (by show some ((wd.alloc (.cells #[] 23)).heap.size) ≠ some (wd.heap.size); simp)
          refine hK.out _ _ hS2 (fun hS => ?_)
          clear hK Kq hS2 g2
          simp only [Act.put, List.getElem_toArray, List.getElem_cons_zero, List.getElem_cons_succ, List.setIfInBounds_toArray, List.set_cons_succ, List.set_cons_zero]
          refine wpAnyH_ready (rs := [5]) (by kernel_rfl) (by simp) ?_
          refine AllReadyH.cons rfl (fun Kq hK => ?_) AllReadyH.nil
          refine tyK.step_append rfl zcK 32 zbK (by omega) (.tmp 30) (.tmp 32) rfl w2.heap.size _ ([] ++ m) rfl (p2) _ (some ⟨(wd.alloc (.cells #[] 23)).heap.size, 0, none⟩) 1 [k] rfl (rowIn_blk (f2) (by simp) (by simp [maxLen])) (by have := LENb.out; simp; omega) hS.size ?_
          intro v9 w9 p9 g9
          have hS2 := hS.trans (own_grown (p2) g9 hS.size)
          refine hK.out _ _ hS2 (fun hS => ?_)
          clear hK Kq hS2 g9
          simp only [Act.put, List.getElem_toArray, List.getElem_cons_zero, List.getElem_cons_succ, List.setIfInBounds_toArray, List.set_cons_succ, List.set_cons_zero]
          refine wpAnyH_ready (rs := [6]) (by kernel_rfl) (by simp) ?_
          refine AllReadyH.cons rfl (fun Kq hK => ?_) AllReadyH.nil
          go_simp
          refine hK.out _ _ hS (fun _ => ?_)
          clear hK Kq
          refine wpAnyH_done (by kernel_rfl) ?_ _
          obtain ⟨A9, c9, rfl, r9⟩ := RowIn.of_own encK_len (own_congr p9 (show ([] ++ m) ++ [k] = m ++ [k] by simp))
          clear p9
          go_wp2_with fail
          go_meet
          exact ⟨_, A9, c9, rfl, Lib.hid ⟨rfl, r9⟩, Lib.hid hS⟩
      · refine tyK.step_build rfl zeroK 1 _ rfl [k] rfl (by omega) (by omega) (by kernel_rfl) ?_
        have f4 := Blk.new wd 23 (cellsOf encK [k]).toArray
        refine hK.out _ _ (hS.alloc hS.size _) (fun hS => ?_)
        clear hK Kq
        simp only [Act.put, List.getElem_toArray, List.getElem_cons_zero, List.getElem_cons_succ, List.setIfInBounds_toArray, List.set_cons_succ, List.set_cons_zero]
        refine wpAnyH_ready (rs := [0]) (by kernel_rfl) (by simp) ?_
        refine AllReadyH.cons rfl (fun Kq hK => ?_) AllReadyH.nil
        go_simp
        have e1 : ((wd.alloc (.cells (cellsOf encK [k]).toArray 23)).alloc (.cells #[] 23)).ownsRow w2.heap.size 23 32 (.slice (some ⟨wd.heap.size + 1, 0, none⟩) 0 0) ([] : List K32).length (cellsOf encK []) := own_nil (blk_new (w := (wd.alloc (.cells (cellsOf encK [k]).toArray 23))) 23 #[] (by simp)) (by have := hS.size; (try simp at this); omega)
        refine hK.out _ _ (hS.alloc hS.size _) (fun hS => ?_)
        clear hK Kq
        refine wpAnyH_ready (rs := [2]) (by kernel_rfl) (by simp) ?_
        refine AllReadyH.cons rfl (fun Kq hK => ?_) AllReadyH.nil
        refine tyK.step_append rfl zcK 32 zbK (by omega) (.tmp 28) (.tmp 29) rfl w2.heap.size _ [] rfl e1 w2.heap.size A' c' m (by show Value.slice A' n' c' = _; rw [HN'.out]) (HRDb.out _ hS) (by have := LENb.out; simp; omega) hS.size ?_
        intro v2 wq2 p2 g2
        have hS2 := hS.trans (own_grown e1 g2 hS.size)
        have f2 := blk_grown (f4.alloc _) g2 (by show some (wd.heap.size) ≠ some (wd.heap.size + 1); simp)
        refine hK.out _ _ hS2 (fun hS => ?_)
        clear hK Kq hS2 g2
        simp only [Act.put, List.getElem_toArray, List.getElem_cons_zero, List.getElem_cons_succ, List.setIfInBounds_toArray, List.set_cons_succ, List.set_cons_zero]
        refine wpAnyH_ready (rs := [5]) (by kernel_rfl) (by simp) ?_
        refine AllReadyH.cons rfl (fun Kq hK => ?_) AllReadyH.nil
        refine tyK.step_append rfl zcK 32 zbK (by omega) (.tmp 30) (.tmp 32) rfl w2.heap.size _ ([] ++ m) rfl (p2) _ (some ⟨wd.heap.size, 0, none⟩) 1 [k] rfl (rowIn_blk (f2) (by simp) (by simp [maxLen])) (by have := LENb.out; simp; omega) hS.size ?_
        intro v9 w9 p9 g9
        have hS2 := hS.trans (own_grown (p2) g9 hS.size)
        refine hK.out _ _ hS2 (fun hS => ?_)
        clear hK Kq hS2 g9
        simp only [Act.put, List.getElem_toArray, List.getElem_cons_zero, List.getElem_cons_succ, List.setIfInBounds_toArray, List.set_cons_succ, List.set_cons_zero]
        refine wpAnyH_ready (rs := [6]) (by kernel_rfl) (by simp) ?_
        refine AllReadyH.cons rfl (fun Kq hK => ?_) AllReadyH.nil
        go_simp
        refine hK.out _ _ hS (fun _ => ?_)
        clear hK Kq
        refine wpAnyH_done (by kernel_rfl) ?_ _
        obtain ⟨A9, c9, rfl, r9⟩ := RowIn.of_own encK_len (own_congr p9 (show ([] ++ m) ++ [k] = m ++ [k] by simp))
        clear p9
        go_wp2_with fail
        go_meet
        exact ⟨_, A9, c9, rfl, Lib.hid ⟨rfl, r9⟩, Lib.hid hS⟩
    case rest =>
      rename World => w3
      obtain ⟨m8, A8, c8, rfl, HR8, HB8⟩ := hcut
      have K3 := Lib.hid (below_blk HB8.out K2.out K2.out.lt)
      have B3 := Lib.hid (B2.out.trans (HB8.out.mono B2.out.size))
      have R7 := Lib.hid ((HR7.out.2.below HB8.out).more HB8.out.size)
      have HL1 := Lib.hid (show (l ++ [k]).length ≤ 201 by rw [List.length_append, HN.out]; simp; omega)
      have HL2 := Lib.hid (show (m ++ [k]).length ≤ 201 by rw [List.length_append, HN'.out]; simp; omega)
      have HMX := Lib.hid (fun W (hW : Below w3.heap.size w3 W) => meet_any A7 c7 (l ++ [k]) A8 c8 (m ++ [k]) w3.heap.size (by have := HL1.out; omega) (by have := HL2.out; omega) W hW.size (R7.out.below hW) (HR8.out.2.below hW))
      have HXM := Lib.hid (fun W (hW : Below w3.heap.size w3 W) => meet_any A7 c7 (l ++ [k]) A' c' m w3.heap.size (by have := HL1.out; omega) (by rw [HN'.out]; omega) W hW.size (R7.out.below hW) ((HOR'.out w3 B3.out).below hW))
      rw [meetF_both, ← HR7.out.1, ← HR8.out.1] at HMX
      rw [HX.out, ← HR7.out.1, HN'.out] at HXM
      have HC := Lib.hid (show Below w3.heap.size w3 w3 from Below.refl _ _)
      clear K2 B2 HRI2 HB8 HR7 HR8 R7
      go_wp2_with (first
        | ((with_reducible refine at_loadg 5 ?_); refine wpList_load_rowg (by rfl) 23 (.tmp 5) rfl w.heap.size rfl 23 (bytesA k.1) _ (below_blk HC.out K3.out K3.out.lt) Try.underlying23 rfl (szK k) ?_)
        | (go_at_call 24; (first | with_reducible refine (HM1.out _ (B3.out.trans (HC.out.mono B3.out.size))).mono ?_ | with_reducible refine (HM2.out _ (B3.out.trans (HC.out.mono B3.out.size))).mono ?_ | with_reducible refine (HMX.out _ HC.out).mono ?_ | with_reducible refine (HXM.out _ HC.out).mono ?_); rintro e w4 ⟨rfl, b4⟩; replace HC := Lib.hid (HC.out.trans (b4.mono HC.out.size)); clear b4)
        | (go_at_call 23; with_reducible refine (HHAS.out _ (B3.out.trans (HC.out.mono B3.out.size))).mono ?_; rintro e w4 ⟨rfl, b4⟩; replace HC := Lib.hid (HC.out.trans (b4.mono HC.out.size)); clear b4))
      go_ret
      exact ⟨rfl, B3.out.trans (HC.out.mono B3.out.size)⟩
set_option maxHeartbeats 8000000 in
theorem kmeets4 (A : Option Addr) (c : Nat) (l : List K32) (A' : Option Addr) (c' : Nat) (m : List K32) (k : K32) (hl : l.length ≤ 200) (hm : m.length ≤ 200) (hM : meetF l m = false) (hX : meetF (l ++ [k]) m = false) (_hK : decide (k ∈ m) = false) (w : World) (h : RowIn encK 32 w w.heap.size A c l) (h' : RowIn encK 32 w w.heap.size A' c' m) :
    Calls Try.prog 7 #[.slice A l.length c, .slice A' m.length c', .agg (bytesA k.1)] w fun e w' => e = .returned (.bool true) ∧ Below w.heap.size w w' := by
  have K0 := Lib.hid (Blk.new w 23 (bytesA k.1))
  have B0 := Lib.hid (show Below w.heap.size w (w.alloc (.cells (bytesA k.1) 23)) from (Below.refl _ _).alloc (Nat.le_refl _) _)
  have HOR := Lib.hid (fun W (hW : Below w.heap.size w W) => (h.below hW).more hW.size)
  have HOR' := Lib.hid (fun W (hW : Below w.heap.size w W) => (h'.below hW).more hW.size)
  have HM1 := Lib.hid (fun W (hW : Below w.heap.size w W) => meet_any A c l A' c' m w.heap.size (by omega) (by omega) W hW.size (h.below hW) (h'.below hW))
  have HM2 := Lib.hid (fun W (hW : Below w.heap.size w W) => meet_any A' c' m A c l w.heap.size (by omega) (by omega) W hW.size (h'.below hW) (h.below hW))
  have HHAS := Lib.hid (fun W (hW : Below w.heap.size w W) => refHas_any A' c' m k w.heap.size W (by omega) hW.size (h'.below hW))
  rw [hM] at HM1
  rw [meetF_comm, hM] at HM2
  rw [_hK] at HHAS
  have HX := Lib.hid hX
  clear hM hX _hK h h'
  obtain ⟨n, hn⟩ : ∃ n, l.length = n := ⟨_, rfl⟩
  obtain ⟨n', hn'⟩ : ∃ n, m.length = n := ⟨_, rfl⟩
  rw [hn, hn'] at HM1 HM2
  rw [hn'] at HHAS
  rw [hn] at hl
  rw [hn'] at hm
  rw [hn, hn']
  have HN := Lib.hid hn
  have HN' := Lib.hid hn'
  clear hn hn'
  have d0 : decide ((200 : Int) < (n : Int)) = false := decide_eq_false (by omega)
  have d1 : decide ((200 : Int) < (n' : Int)) = false := decide_eq_false (by omega)
  go_enter Try.func7, Try.ntmps7
  go_wp2_with (go_at_call 10; refine (shown_any _).mono ?_; rintro e w1 ⟨rfl, b1⟩; have K1 := Lib.hid (below_blk b1 K0.out K0.out.lt); have B1 := Lib.hid (B0.out.trans (b1.mono B0.out.size)); clear b1)
  have HRI := Lib.hid (HOR.out w1 B1.out)
  go_cut [7] from 22 (fun vx wc => ∃ (m7 : Nat) (A7 : Option Addr) (c7 : Nat), vx = .slice A7 m7 c7 ∧ Hid (m7 = (l ++ [k]).length ∧ RowIn encK 32 wc wc.heap.size A7 c7 (l ++ [k])) ∧ Hid (Below w1.heap.size w1 wc))
  case first =>
    have HRDa := Lib.hid (fun W (hW : Below w1.heap.size w1 W) => HRI.out.below hW)
    have LENa := Lib.hid (show l.length ≤ 200 by rw [HN.out]; omega)
    refine wp_region_held_drew (S := Below w1.heap.size w1) (by kernel_rfl) (Below.refl _ _).drew ?_
    intro hS
    generalize w1.drew = wd at hS ⊢
    refine wpAnyH_take (i := 1) (v := .slice A n c) rfl (by kernel_rfl) (by kernel_rfl) (by kernel_rfl) (fun _ _ _ h => h) (Or.inl ⟨by rfl, fun W _ => by go_simp; try with_reducible rfl⟩) hS ?_
    simp only [Act.put, List.getElem_toArray, List.getElem_cons_zero, List.getElem_cons_succ, List.setIfInBounds_toArray, List.set_cons_succ, List.set_cons_zero]
    refine wpAnyH_take (i := 3) (v := .agg (bytesA k.1)) rfl (by kernel_rfl) (by kernel_rfl) (by kernel_rfl) (fun _ _ _ h => h) (yieldsIf_load_row (by rfl) 23 (.tmp 5) rfl w.heap.size rfl 23 (bytesA k.1) _ (fun _ hW => below_blk hW K1.out K1.out.lt) Try.underlying23 rfl (szK k)) hS ?_
    simp only [Act.put, List.getElem_toArray, List.getElem_cons_zero, List.getElem_cons_succ, List.setIfInBounds_toArray, List.set_cons_succ, List.set_cons_zero]
    refine wpAnyH_ready (rs := [0, 4]) (by kernel_rfl) (by simp) ?_
    refine AllReadyH.cons rfl (fun Kq hK => ?_) (AllReadyH.cons rfl (fun Kq hK => ?_) AllReadyH.nil)
    · go_simp
      have e1 : (wd.alloc (.cells #[] 23)).ownsRow w1.heap.size 23 32 (.slice (some ⟨wd.heap.size, 0, none⟩) 0 0) ([] : List K32).length (cellsOf encK []) := own_nil (blk_new (w := wd) 23 #[] (by simp)) (by have := hS.size; (try simp at this); omega)
      refine hK.out _ _ (hS.alloc hS.size _) (fun hS => ?_)
      clear hK Kq
      refine wpAnyH_ready (rs := [2, 4]) (by kernel_rfl) (by simp) ?_
      refine AllReadyH.cons rfl (fun Kq hK => ?_) (AllReadyH.cons rfl (fun Kq hK => ?_) AllReadyH.nil)
      · refine tyK.step_append rfl zcK 32 zbK (by omega) (.tmp 22) (.tmp 23) rfl w1.heap.size _ [] rfl e1 w1.heap.size A c l (by show Value.slice A n c = _; rw [HN.out]) (HRDa.out _ hS) (by have := LENa.out; simp; omega) hS.size ?_
        intro v2 wq2 p2 g2
        have hS2 := hS.trans (own_grown e1 g2 hS.size)
        refine hK.out _ _ hS2 (fun hS => ?_)
        clear hK Kq hS2 g2
        simp only [Act.put, List.getElem_toArray, List.getElem_cons_zero, List.getElem_cons_succ, List.setIfInBounds_toArray, List.set_cons_succ, List.set_cons_zero]
        refine wpAnyH_ready (rs := [4]) (by kernel_rfl) (by simp) ?_
        refine AllReadyH.cons rfl (fun Kq hK => ?_) AllReadyH.nil
        refine tyK.step_build rfl zeroK 1 _ rfl [k] rfl (by omega) (by omega) (by kernel_rfl) ?_
        have f4 := Blk.new wq2 23 (cellsOf encK [k]).toArray
        refine hK.out _ _ (hS.alloc hS.size _) (fun hS => ?_)
        clear hK Kq
        simp only [Act.put, List.getElem_toArray, List.getElem_cons_zero, List.getElem_cons_succ, List.setIfInBounds_toArray, List.set_cons_succ, List.set_cons_zero]
        refine wpAnyH_ready (rs := [5]) (by kernel_rfl) (by simp) ?_
        refine AllReadyH.cons rfl (fun Kq hK => ?_) AllReadyH.nil
        refine tyK.step_append rfl zcK 32 zbK (by omega) (.tmp 24) (.tmp 26) rfl w1.heap.size _ ([] ++ l) rfl (own_alloc p2 _) _ (some ⟨wq2.heap.size, 0, none⟩) 1 [k] rfl (rowIn_blk (f4) (by simp) (by simp [maxLen])) (by have := LENa.out; simp; omega) hS.size ?_
        intro v9 w9 p9 g9
        have hS2 := hS.trans (own_grown (own_alloc p2 _) g9 hS.size)
        refine hK.out _ _ hS2 (fun hS => ?_)
        clear hK Kq hS2 g9
        simp only [Act.put, List.getElem_toArray, List.getElem_cons_zero, List.getElem_cons_succ, List.setIfInBounds_toArray, List.set_cons_succ, List.set_cons_zero]
        refine wpAnyH_ready (rs := [6]) (by kernel_rfl) (by simp) ?_
        refine AllReadyH.cons rfl (fun Kq hK => ?_) AllReadyH.nil
        go_simp
        refine hK.out _ _ hS (fun _ => ?_)
        clear hK Kq
        refine wpAnyH_done (by kernel_rfl) ?_ _
        obtain ⟨A9, c9, rfl, r9⟩ := RowIn.of_own encK_len (own_congr p9 (show ([] ++ l) ++ [k] = l ++ [k] by simp))
        clear p9
        go_wp2_with fail
        go_meet
        exact ⟨_, A9, c9, rfl, Lib.hid ⟨rfl, r9⟩, Lib.hid hS⟩
      · refine tyK.step_build rfl zeroK 1 _ rfl [k] rfl (by omega) (by omega) (by kernel_rfl) ?_
        have f4 := Blk.new (wd.alloc (.cells #[] 23)) 23 (cellsOf encK [k]).toArray
        refine hK.out _ _ (hS.alloc hS.size _) (fun hS => ?_)
        clear hK Kq
        simp only [Act.put, List.getElem_toArray, List.getElem_cons_zero, List.getElem_cons_succ, List.setIfInBounds_toArray, List.set_cons_succ, List.set_cons_zero]
        refine wpAnyH_ready (rs := [2]) (by kernel_rfl) (by simp) ?_
        refine AllReadyH.cons rfl (fun Kq hK => ?_) AllReadyH.nil
        refine tyK.step_append rfl zcK 32 zbK (by omega) (.tmp 22) (.tmp 23) rfl w1.heap.size _ [] rfl (own_alloc e1 _) w1.heap.size A c l (by show Value.slice A n c = _; rw [HN.out]) (HRDa.out _ hS) (by have := LENa.out; simp; omega) hS.size ?_
        intro v2 wq2 p2 g2
        have hS2 := hS.trans (own_grown (own_alloc e1 _) g2 hS.size)
        have f2 := blk_grown f4 g2 (by show some ((wd.alloc (.cells #[] 23)).heap.size) ≠ some (wd.heap.size); simp)
        refine hK.out _ _ hS2 (fun hS => ?_)
        clear hK Kq hS2 g2
        simp only [Act.put, List.getElem_toArray, List.getElem_cons_zero, List.getElem_cons_succ, List.setIfInBounds_toArray, List.set_cons_succ, List.set_cons_zero]
        refine wpAnyH_ready (rs := [5]) (by kernel_rfl) (by simp) ?_
        refine AllReadyH.cons rfl (fun Kq hK => ?_) AllReadyH.nil
        refine tyK.step_append rfl zcK 32 zbK (by omega) (.tmp 24) (.tmp 26) rfl w1.heap.size _ ([] ++ l) rfl (p2) _ (some ⟨(wd.alloc (.cells #[] 23)).heap.size, 0, none⟩) 1 [k] rfl (rowIn_blk (f2) (by simp) (by simp [maxLen])) (by have := LENa.out; simp; omega) hS.size ?_
        intro v9 w9 p9 g9
        have hS2 := hS.trans (own_grown (p2) g9 hS.size)
        refine hK.out _ _ hS2 (fun hS => ?_)
        clear hK Kq hS2 g9
        simp only [Act.put, List.getElem_toArray, List.getElem_cons_zero, List.getElem_cons_succ, List.setIfInBounds_toArray, List.set_cons_succ, List.set_cons_zero]
        refine wpAnyH_ready (rs := [6]) (by kernel_rfl) (by simp) ?_
        refine AllReadyH.cons rfl (fun Kq hK => ?_) AllReadyH.nil
        go_simp
        refine hK.out _ _ hS (fun _ => ?_)
        clear hK Kq
        refine wpAnyH_done (by kernel_rfl) ?_ _
        obtain ⟨A9, c9, rfl, r9⟩ := RowIn.of_own encK_len (own_congr p9 (show ([] ++ l) ++ [k] = l ++ [k] by simp))
        clear p9
        go_wp2_with fail
        go_meet
        exact ⟨_, A9, c9, rfl, Lib.hid ⟨rfl, r9⟩, Lib.hid hS⟩
    · refine tyK.step_build rfl zeroK 1 _ rfl [k] rfl (by omega) (by omega) (by kernel_rfl) ?_
      have f4 := Blk.new wd 23 (cellsOf encK [k]).toArray
      refine hK.out _ _ (hS.alloc hS.size _) (fun hS => ?_)
      clear hK Kq
      simp only [Act.put, List.getElem_toArray, List.getElem_cons_zero, List.getElem_cons_succ, List.setIfInBounds_toArray, List.set_cons_succ, List.set_cons_zero]
      refine wpAnyH_ready (rs := [0]) (by kernel_rfl) (by simp) ?_
      refine AllReadyH.cons rfl (fun Kq hK => ?_) AllReadyH.nil
      go_simp
      have e1 : ((wd.alloc (.cells (cellsOf encK [k]).toArray 23)).alloc (.cells #[] 23)).ownsRow w1.heap.size 23 32 (.slice (some ⟨wd.heap.size + 1, 0, none⟩) 0 0) ([] : List K32).length (cellsOf encK []) := own_nil (blk_new (w := (wd.alloc (.cells (cellsOf encK [k]).toArray 23))) 23 #[] (by simp)) (by have := hS.size; (try simp at this); omega)
      refine hK.out _ _ (hS.alloc hS.size _) (fun hS => ?_)
      clear hK Kq
      refine wpAnyH_ready (rs := [2]) (by kernel_rfl) (by simp) ?_
      refine AllReadyH.cons rfl (fun Kq hK => ?_) AllReadyH.nil
      refine tyK.step_append rfl zcK 32 zbK (by omega) (.tmp 22) (.tmp 23) rfl w1.heap.size _ [] rfl e1 w1.heap.size A c l (by show Value.slice A n c = _; rw [HN.out]) (HRDa.out _ hS) (by have := LENa.out; simp; omega) hS.size ?_
      intro v2 wq2 p2 g2
      have hS2 := hS.trans (own_grown e1 g2 hS.size)
      have f2 := blk_grown (f4.alloc _) g2 (by show some (wd.heap.size) ≠ some (wd.heap.size + 1); simp)
      refine hK.out _ _ hS2 (fun hS => ?_)
      clear hK Kq hS2 g2
      simp only [Act.put, List.getElem_toArray, List.getElem_cons_zero, List.getElem_cons_succ, List.setIfInBounds_toArray, List.set_cons_succ, List.set_cons_zero]
      refine wpAnyH_ready (rs := [5]) (by kernel_rfl) (by simp) ?_
      refine AllReadyH.cons rfl (fun Kq hK => ?_) AllReadyH.nil
      refine tyK.step_append rfl zcK 32 zbK (by omega) (.tmp 24) (.tmp 26) rfl w1.heap.size _ ([] ++ l) rfl (p2) _ (some ⟨wd.heap.size, 0, none⟩) 1 [k] rfl (rowIn_blk (f2) (by simp) (by simp [maxLen])) (by have := LENa.out; simp; omega) hS.size ?_
      intro v9 w9 p9 g9
      have hS2 := hS.trans (own_grown (p2) g9 hS.size)
      refine hK.out _ _ hS2 (fun hS => ?_)
      clear hK Kq hS2 g9
      simp only [Act.put, List.getElem_toArray, List.getElem_cons_zero, List.getElem_cons_succ, List.setIfInBounds_toArray, List.set_cons_succ, List.set_cons_zero]
      refine wpAnyH_ready (rs := [6]) (by kernel_rfl) (by simp) ?_
      refine AllReadyH.cons rfl (fun Kq hK => ?_) AllReadyH.nil
      go_simp
      refine hK.out _ _ hS (fun _ => ?_)
      clear hK Kq
      refine wpAnyH_done (by kernel_rfl) ?_ _
      obtain ⟨A9, c9, rfl, r9⟩ := RowIn.of_own encK_len (own_congr p9 (show ([] ++ l) ++ [k] = l ++ [k] by simp))
      clear p9
      go_wp2_with fail
      go_meet
      exact ⟨_, A9, c9, rfl, Lib.hid ⟨rfl, r9⟩, Lib.hid hS⟩
  case rest =>
    rename World => w2
    obtain ⟨m7, A7, c7, rfl, HR7, HB7⟩ := hcut
    have K2 := Lib.hid (below_blk HB7.out K1.out K1.out.lt)
    have B2 := Lib.hid (B1.out.trans (HB7.out.mono B1.out.size))
    have HRI2 := Lib.hid (HOR'.out w2 B2.out)
    clear K1 B1 HRI HB7
    go_wp2_with fail
    go_cut [8] from 28 (fun vx wc => ∃ (m8 : Nat) (A8 : Option Addr) (c8 : Nat), vx = .slice A8 m8 c8 ∧ Hid (m8 = (m ++ [k]).length ∧ RowIn encK 32 wc wc.heap.size A8 c8 (m ++ [k])) ∧ Hid (Below w2.heap.size w2 wc))
    case first =>
      have HRDb := Lib.hid (fun W (hW : Below w2.heap.size w2 W) => HRI2.out.below hW)
      have LENb := Lib.hid (show m.length ≤ 200 by rw [HN'.out]; omega)
      refine wp_region_held_drew (S := Below w2.heap.size w2) (by kernel_rfl) (Below.refl _ _).drew ?_
      intro hS
      generalize w2.drew = wd at hS ⊢
      refine wpAnyH_take (i := 1) (v := .slice A' n' c') rfl (by kernel_rfl) (by kernel_rfl) (by kernel_rfl) (fun _ _ _ h => h) (Or.inl ⟨by rfl, fun W _ => by go_simp; try with_reducible rfl⟩) hS ?_
      simp only [Act.put, List.getElem_toArray, List.getElem_cons_zero, List.getElem_cons_succ, List.setIfInBounds_toArray, List.set_cons_succ, List.set_cons_zero]
      refine wpAnyH_take (i := 3) (v := .agg (bytesA k.1)) rfl (by kernel_rfl) (by kernel_rfl) (by kernel_rfl) (fun _ _ _ h => h) (yieldsIf_load_row (by rfl) 23 (.tmp 5) rfl w.heap.size rfl 23 (bytesA k.1) _ (fun _ hW => below_blk hW K2.out K2.out.lt) Try.underlying23 rfl (szK k)) hS ?_
      simp only [Act.put, List.getElem_toArray, List.getElem_cons_zero, List.getElem_cons_succ, List.setIfInBounds_toArray, List.set_cons_succ, List.set_cons_zero]
      refine wpAnyH_ready (rs := [0, 4]) (by kernel_rfl) (by simp) ?_
      refine AllReadyH.cons rfl (fun Kq hK => ?_) (AllReadyH.cons rfl (fun Kq hK => ?_) AllReadyH.nil)
      · go_simp
        have e1 : (wd.alloc (.cells #[] 23)).ownsRow w2.heap.size 23 32 (.slice (some ⟨wd.heap.size, 0, none⟩) 0 0) ([] : List K32).length (cellsOf encK []) := own_nil (blk_new (w := wd) 23 #[] (by simp)) (by have := hS.size; (try simp at this); omega)
        refine hK.out _ _ (hS.alloc hS.size _) (fun hS => ?_)
        clear hK Kq
        refine wpAnyH_ready (rs := [2, 4]) (by kernel_rfl) (by simp) ?_
        refine AllReadyH.cons rfl (fun Kq hK => ?_) (AllReadyH.cons rfl (fun Kq hK => ?_) AllReadyH.nil)
        · refine tyK.step_append rfl zcK 32 zbK (by omega) (.tmp 28) (.tmp 29) rfl w2.heap.size _ [] rfl e1 w2.heap.size A' c' m (by show Value.slice A' n' c' = _; rw [HN'.out]) (HRDb.out _ hS) (by have := LENb.out; simp; omega) hS.size ?_
          intro v2 wq2 p2 g2
          have hS2 := hS.trans (own_grown e1 g2 hS.size)
          refine hK.out _ _ hS2 (fun hS => ?_)
          clear hK Kq hS2 g2
          simp only [Act.put, List.getElem_toArray, List.getElem_cons_zero, List.getElem_cons_succ, List.setIfInBounds_toArray, List.set_cons_succ, List.set_cons_zero]
          refine wpAnyH_ready (rs := [4]) (by kernel_rfl) (by simp) ?_
          refine AllReadyH.cons rfl (fun Kq hK => ?_) AllReadyH.nil
          refine tyK.step_build rfl zeroK 1 _ rfl [k] rfl (by omega) (by omega) (by kernel_rfl) ?_
          have f4 := Blk.new wq2 23 (cellsOf encK [k]).toArray
          refine hK.out _ _ (hS.alloc hS.size _) (fun hS => ?_)
          clear hK Kq
          simp only [Act.put, List.getElem_toArray, List.getElem_cons_zero, List.getElem_cons_succ, List.setIfInBounds_toArray, List.set_cons_succ, List.set_cons_zero]
          refine wpAnyH_ready (rs := [5]) (by kernel_rfl) (by simp) ?_
          refine AllReadyH.cons rfl (fun Kq hK => ?_) AllReadyH.nil
          refine tyK.step_append rfl zcK 32 zbK (by omega) (.tmp 30) (.tmp 32) rfl w2.heap.size _ ([] ++ m) rfl (own_alloc p2 _) _ (some ⟨wq2.heap.size, 0, none⟩) 1 [k] rfl (rowIn_blk (f4) (by simp) (by simp [maxLen])) (by have := LENb.out; simp; omega) hS.size ?_
          intro v9 w9 p9 g9
          have hS2 := hS.trans (own_grown (own_alloc p2 _) g9 hS.size)
          refine hK.out _ _ hS2 (fun hS => ?_)
          clear hK Kq hS2 g9
          simp only [Act.put, List.getElem_toArray, List.getElem_cons_zero, List.getElem_cons_succ, List.setIfInBounds_toArray, List.set_cons_succ, List.set_cons_zero]
          refine wpAnyH_ready (rs := [6]) (by kernel_rfl) (by simp) ?_
          refine AllReadyH.cons rfl (fun Kq hK => ?_) AllReadyH.nil
          go_simp
          refine hK.out _ _ hS (fun _ => ?_)
          clear hK Kq
          refine wpAnyH_done (by kernel_rfl) ?_ _
          obtain ⟨A9, c9, rfl, r9⟩ := RowIn.of_own encK_len (own_congr p9 (show ([] ++ m) ++ [k] = m ++ [k] by simp))
          clear p9
          go_wp2_with fail
          go_meet
          exact ⟨_, A9, c9, rfl, Lib.hid ⟨rfl, r9⟩, Lib.hid hS⟩
        · refine tyK.step_build rfl zeroK 1 _ rfl [k] rfl (by omega) (by omega) (by kernel_rfl) ?_
          have f4 := Blk.new (wd.alloc (.cells #[] 23)) 23 (cellsOf encK [k]).toArray
          refine hK.out _ _ (hS.alloc hS.size _) (fun hS => ?_)
          clear hK Kq
          simp only [Act.put, List.getElem_toArray, List.getElem_cons_zero, List.getElem_cons_succ, List.setIfInBounds_toArray, List.set_cons_succ, List.set_cons_zero]
          refine wpAnyH_ready (rs := [2]) (by kernel_rfl) (by simp) ?_
          refine AllReadyH.cons rfl (fun Kq hK => ?_) AllReadyH.nil
          refine tyK.step_append rfl zcK 32 zbK (by omega) (.tmp 28) (.tmp 29) rfl w2.heap.size _ [] rfl (own_alloc e1 _) w2.heap.size A' c' m (by show Value.slice A' n' c' = _; rw [HN'.out]) (HRDb.out _ hS) (by have := LENb.out; simp; omega) hS.size ?_
          intro v2 wq2 p2 g2
          have hS2 := hS.trans (own_grown (own_alloc e1 _) g2 hS.size)
          have f2 := blk_grown f4 g2 (by show some ((wd.alloc (.cells #[] 23)).heap.size) ≠ some (wd.heap.size); simp)
          refine hK.out _ _ hS2 (fun hS => ?_)
          clear hK Kq hS2 g2
          simp only [Act.put, List.getElem_toArray, List.getElem_cons_zero, List.getElem_cons_succ, List.setIfInBounds_toArray, List.set_cons_succ, List.set_cons_zero]
          refine wpAnyH_ready (rs := [5]) (by kernel_rfl) (by simp) ?_
          refine AllReadyH.cons rfl (fun Kq hK => ?_) AllReadyH.nil
          refine tyK.step_append rfl zcK 32 zbK (by omega) (.tmp 30) (.tmp 32) rfl w2.heap.size _ ([] ++ m) rfl (p2) _ (some ⟨(wd.alloc (.cells #[] 23)).heap.size, 0, none⟩) 1 [k] rfl (rowIn_blk (f2) (by simp) (by simp [maxLen])) (by have := LENb.out; simp; omega) hS.size ?_
          intro v9 w9 p9 g9
          have hS2 := hS.trans (own_grown (p2) g9 hS.size)
          refine hK.out _ _ hS2 (fun hS => ?_)
          clear hK Kq hS2 g9
          simp only [Act.put, List.getElem_toArray, List.getElem_cons_zero, List.getElem_cons_succ, List.setIfInBounds_toArray, List.set_cons_succ, List.set_cons_zero]
          refine wpAnyH_ready (rs := [6]) (by kernel_rfl) (by simp) ?_
          refine AllReadyH.cons rfl (fun Kq hK => ?_) AllReadyH.nil
          go_simp
          refine hK.out _ _ hS (fun _ => ?_)
          clear hK Kq
          refine wpAnyH_done (by kernel_rfl) ?_ _
          obtain ⟨A9, c9, rfl, r9⟩ := RowIn.of_own encK_len (own_congr p9 (show ([] ++ m) ++ [k] = m ++ [k] by simp))
          clear p9
          go_wp2_with fail
          go_meet
          exact ⟨_, A9, c9, rfl, Lib.hid ⟨rfl, r9⟩, Lib.hid hS⟩
      · refine tyK.step_build rfl zeroK 1 _ rfl [k] rfl (by omega) (by omega) (by kernel_rfl) ?_
        have f4 := Blk.new wd 23 (cellsOf encK [k]).toArray
        refine hK.out _ _ (hS.alloc hS.size _) (fun hS => ?_)
        clear hK Kq
        simp only [Act.put, List.getElem_toArray, List.getElem_cons_zero, List.getElem_cons_succ, List.setIfInBounds_toArray, List.set_cons_succ, List.set_cons_zero]
        refine wpAnyH_ready (rs := [0]) (by kernel_rfl) (by simp) ?_
        refine AllReadyH.cons rfl (fun Kq hK => ?_) AllReadyH.nil
        go_simp
        have e1 : ((wd.alloc (.cells (cellsOf encK [k]).toArray 23)).alloc (.cells #[] 23)).ownsRow w2.heap.size 23 32 (.slice (some ⟨wd.heap.size + 1, 0, none⟩) 0 0) ([] : List K32).length (cellsOf encK []) := own_nil (blk_new (w := (wd.alloc (.cells (cellsOf encK [k]).toArray 23))) 23 #[] (by simp)) (by have := hS.size; (try simp at this); omega)
        refine hK.out _ _ (hS.alloc hS.size _) (fun hS => ?_)
        clear hK Kq
        refine wpAnyH_ready (rs := [2]) (by kernel_rfl) (by simp) ?_
        refine AllReadyH.cons rfl (fun Kq hK => ?_) AllReadyH.nil
        refine tyK.step_append rfl zcK 32 zbK (by omega) (.tmp 28) (.tmp 29) rfl w2.heap.size _ [] rfl e1 w2.heap.size A' c' m (by show Value.slice A' n' c' = _; rw [HN'.out]) (HRDb.out _ hS) (by have := LENb.out; simp; omega) hS.size ?_
        intro v2 wq2 p2 g2
        have hS2 := hS.trans (own_grown e1 g2 hS.size)
        have f2 := blk_grown (f4.alloc _) g2 (by show some (wd.heap.size) ≠ some (wd.heap.size + 1); simp)
        refine hK.out _ _ hS2 (fun hS => ?_)
        clear hK Kq hS2 g2
        simp only [Act.put, List.getElem_toArray, List.getElem_cons_zero, List.getElem_cons_succ, List.setIfInBounds_toArray, List.set_cons_succ, List.set_cons_zero]
        refine wpAnyH_ready (rs := [5]) (by kernel_rfl) (by simp) ?_
        refine AllReadyH.cons rfl (fun Kq hK => ?_) AllReadyH.nil
        refine tyK.step_append rfl zcK 32 zbK (by omega) (.tmp 30) (.tmp 32) rfl w2.heap.size _ ([] ++ m) rfl (p2) _ (some ⟨wd.heap.size, 0, none⟩) 1 [k] rfl (rowIn_blk (f2) (by simp) (by simp [maxLen])) (by have := LENb.out; simp; omega) hS.size ?_
        intro v9 w9 p9 g9
        have hS2 := hS.trans (own_grown (p2) g9 hS.size)
        refine hK.out _ _ hS2 (fun hS => ?_)
        clear hK Kq hS2 g9
        simp only [Act.put, List.getElem_toArray, List.getElem_cons_zero, List.getElem_cons_succ, List.setIfInBounds_toArray, List.set_cons_succ, List.set_cons_zero]
        refine wpAnyH_ready (rs := [6]) (by kernel_rfl) (by simp) ?_
        refine AllReadyH.cons rfl (fun Kq hK => ?_) AllReadyH.nil
        go_simp
        refine hK.out _ _ hS (fun _ => ?_)
        clear hK Kq
        refine wpAnyH_done (by kernel_rfl) ?_ _
        obtain ⟨A9, c9, rfl, r9⟩ := RowIn.of_own encK_len (own_congr p9 (show ([] ++ m) ++ [k] = m ++ [k] by simp))
        clear p9
        go_wp2_with fail
        go_meet
        exact ⟨_, A9, c9, rfl, Lib.hid ⟨rfl, r9⟩, Lib.hid hS⟩
    case rest =>
      rename World => w3
      obtain ⟨m8, A8, c8, rfl, HR8, HB8⟩ := hcut
      have K3 := Lib.hid (below_blk HB8.out K2.out K2.out.lt)
      have B3 := Lib.hid (B2.out.trans (HB8.out.mono B2.out.size))
      have R7 := Lib.hid ((HR7.out.2.below HB8.out).more HB8.out.size)
      have HL1 := Lib.hid (show (l ++ [k]).length ≤ 201 by rw [List.length_append, HN.out]; simp; omega)
      have HL2 := Lib.hid (show (m ++ [k]).length ≤ 201 by rw [List.length_append, HN'.out]; simp; omega)
      have HMX := Lib.hid (fun W (hW : Below w3.heap.size w3 W) => meet_any A7 c7 (l ++ [k]) A8 c8 (m ++ [k]) w3.heap.size (by have := HL1.out; omega) (by have := HL2.out; omega) W hW.size (R7.out.below hW) (HR8.out.2.below hW))
      have HXM := Lib.hid (fun W (hW : Below w3.heap.size w3 W) => meet_any A7 c7 (l ++ [k]) A' c' m w3.heap.size (by have := HL1.out; omega) (by rw [HN'.out]; omega) W hW.size (R7.out.below hW) ((HOR'.out w3 B3.out).below hW))
      rw [meetF_both, ← HR7.out.1, ← HR8.out.1] at HMX
      rw [HX.out, ← HR7.out.1, HN'.out] at HXM
      have HC := Lib.hid (show Below w3.heap.size w3 w3 from Below.refl _ _)
      clear K2 B2 HRI2 HB8 HR7 HR8 R7
      go_wp2_with (first
        | ((with_reducible refine at_loadg 5 ?_); refine wpList_load_rowg (by rfl) 23 (.tmp 5) rfl w.heap.size rfl 23 (bytesA k.1) _ (below_blk HC.out K3.out K3.out.lt) Try.underlying23 rfl (szK k) ?_)
        | (go_at_call 24; (first | with_reducible refine (HM1.out _ (B3.out.trans (HC.out.mono B3.out.size))).mono ?_ | with_reducible refine (HM2.out _ (B3.out.trans (HC.out.mono B3.out.size))).mono ?_ | with_reducible refine (HMX.out _ HC.out).mono ?_ | with_reducible refine (HXM.out _ HC.out).mono ?_); rintro e w4 ⟨rfl, b4⟩; replace HC := Lib.hid (HC.out.trans (b4.mono HC.out.size)); clear b4)
        | (go_at_call 23; with_reducible refine (HHAS.out _ (B3.out.trans (HC.out.mono B3.out.size))).mono ?_; rintro e w4 ⟨rfl, b4⟩; replace HC := Lib.hid (HC.out.trans (b4.mono HC.out.size)); clear b4))
      go_ret
      exact ⟨rfl, B3.out.trans (HC.out.mono B3.out.size)⟩
theorem kmeets_walk (A : Option Addr) (c : Nat) (l : List K32) (A' : Option Addr) (c' : Nat) (m : List K32) (k : List UInt8) (w : World) (h : RowIn encK 32 w w.heap.size A c l) (h' : RowIn encK 32 w w.heap.size A' c' m) (hk : k.length = 32) :
    Calls Try.prog 7 #[.slice A l.length c, .slice A' m.length c', .agg (bytesA k)] w fun e w' => e = .returned (.bool true) ∧ Below w.heap.size w w' := by
  obtain ⟨k, rfl⟩ : ∃ q : K32, q.1 = k := ⟨⟨k, hk⟩, rfl⟩
  by_cases hl : l.length ≤ 200
  · by_cases hm : m.length ≤ 200
    · have hX := meetF_snoc l m k
      cases hM : meetF l m <;> cases hK : decide (k ∈ m) <;> rw [hM, hK] at hX
      · exact kmeets4 A c l A' c' m k hl hm hM hX hK w h h'
      · exact kmeets3 A c l A' c' m k hl hm hM hX hK w h h'
      · exact kmeets1 A c l A' c' m k hl hm hM hX hK w h h'
      · exact kmeets2 A c l A' c' m k hl hm hM hX hK w h h'
    · obtain ⟨n, hn⟩ : ∃ n, l.length = n := ⟨_, rfl⟩
      obtain ⟨n', hn'⟩ : ∃ n, m.length = n := ⟨_, rfl⟩
      rw [hn] at hl
      rw [hn'] at hm
      rw [hn, hn']
      clear h h' hn hn'
      have d0 : decide ((200 : Int) < (n : Int)) = false := decide_eq_false (by omega)
      have d1 : decide ((200 : Int) < (n' : Int)) = true := decide_eq_true (by omega)
      have B0 : Below w.heap.size w (w.alloc (.cells (bytesA k.1) 23)) := (Below.refl _ _).alloc (Nat.le_refl _) _
      go_enter Try.func7, Try.ntmps7
      go_wp2_with (go_at_call 10; refine (shown_any _).mono ?_; rintro e w1 ⟨rfl, b1⟩)
      go_ret
      exact ⟨rfl, B0.trans (b1.mono B0.size)⟩
  · obtain ⟨n, hn⟩ : ∃ n, l.length = n := ⟨_, rfl⟩
    rw [hn] at hl ⊢
    clear h h' hn
    obtain ⟨n', hn'⟩ : ∃ n, m.length = n := ⟨_, rfl⟩
    rw [hn']
    clear hn'
    have d0 : decide ((200 : Int) < (n : Int)) = true := decide_eq_true (by omega)
    have B0 : Below w.heap.size w (w.alloc (.cells (bytesA k.1) 23)) := (Below.refl _ _).alloc (Nat.le_refl _) _
    go_enter Try.func7, Try.ntmps7
    go_wp2_with (go_at_call 10; refine (shown_any _).mono ?_; rintro e w1 ⟨rfl, b1⟩)
    go_ret
    exact ⟨rfl, B0.trans (b1.mono B0.size)⟩
end Go.Proofs.Ytdojjddobepccaa
