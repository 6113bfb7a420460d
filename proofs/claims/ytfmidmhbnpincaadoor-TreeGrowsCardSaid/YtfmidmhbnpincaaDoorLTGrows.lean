/- TreeGrows' walk. Written by genL7f.py. -/
import Derived.Test.YtfmidmhbnpincaaDoorLTParts
namespace Go.Proofs.YtfmidmhbnpincaaDoor
open Go.RowKit
theorem appT_of (l : List K32) (x : K32) (h : l.length < 4294967295) (h1 : l.length < 4294967296) (h2 : (l ++ [x]).length < 4294967296) : appT (ofT l h1) x = (ofT (l ++ [x]) h2, 0) := by
  have ha := appV_of pairK zeroKey l x h
  unfold appV at ha
  rw [show (ofV pairK zeroKey l).count = l.length from rfl, if_neg (by omega)] at ha
  injection ha with ha1 _
  unfold appT
  rw [dif_neg (show (ofT l h1).c ≠ 4294967295 by show l.length ≠ _; omega)]
  congr 1
  exact TrV.ext' ha1
theorem allT_of : ∀ (m l : List K32) (h1 : l.length < 4294967296) (h2 : (l ++ m).length < 4294967296), (l ++ m).length < 4294967295 → allT (ofT l h1) m = (ofT (l ++ m) h2, 0)
  | [], l, h1, h2, _ => by
    unfold allT
    congr 1
    refine TrV.ext' ?_
    rw [ofT_V, ofT_V, List.append_nil]
  | x :: m, l, h1, h2, h => by
    have h3 : (l ++ [x]).length < 4294967296 := by simp at h ⊢; omega
    unfold allT
    rw [appT_of l x (by simp at h; omega) h1 h3]
    show (if (0 : Int) = 0 then _ else _) = _
    rw [if_pos rfl]
    have h4 : ((l ++ [x]) ++ m).length < 4294967296 := by rw [List.append_assoc]; exact h2
    rw [allT_of m (l ++ [x]) h3 h4 (by rw [List.append_assoc]; exact h)]
    congr 1
    refine TrV.ext' ?_
    rw [ofT_V, ofT_V, List.append_assoc]
    rfl
set_option maxRecDepth 100000 in
set_option maxHeartbeats 4000000 in
theorem tgrows_walk (HP : AppTOk) (HO : OfTOk) (HL' : AllTOk) (A : Option Addr) (c : Nat) (l : List K32) (at' : Int) (w : World) (hl : RowIn encK 32 w w.heap.size A c l) (hat : (Lit.int .u8 at').wf = true) (hR : Roots w) :
    Calls Tryd.prog 5 #[.slice A l.length c, .int .u8 at'] w fun e w' => e = .returned (.bool true) ∧ Below w.heap.size w w' := by
  have SH := Lib.hid (fun W h => tshown_any HP W h)
  unfold OfTOk at HO
  unfold AllTOk at HL'
  unfold AppTOk at HP
  have hcu : 0 ≤ at' ∧ at' ≤ 255 := by simpa [Lit.wf, IntKind.min, IntKind.max, IntKind.signed, IntKind.bits] using hat
  obtain ⟨m, rfl⟩ : ∃ m : Nat, at' = m := ⟨at'.toNat, by omega⟩
  have HL := Lib.hid hl
  have hle := hl.le
  have RR := Lib.hid (Roots.on hR)
  have R0 := Lib.hid hR
  by_cases h60 : 60 < l.length
  · have hd : decide ((60 : Int) < (l.length : Int)) = true := by simp; omega
    clear hl hR hat hcu hle
    go_enter Tryd.func5, Tryd.ntmps5
    go_wp2_with fail
    refine (SH.out _ R0.out).mono ?_
    rintro e w1 ⟨rfl, b1⟩
    go_wp2_with fail
    go_ret
    exact ⟨rfl, b1⟩
  · have hd : decide ((60 : Int) < (l.length : Int)) = false := by simp; omega
    have h32 : l.length < 4294967296 := by omega
    have H60 := Lib.hid (show l.length ≤ 60 by omega)
    obtain ⟨n, hn⟩ : ∃ n, m % (l.length + 1) = n := ⟨_, rfl⟩
    have hnl : n ≤ l.length := by have := Nat.mod_lt m (show 0 < l.length + 1 by omega); omega
    have hcv : IntKind.i64.wrap (m : Int) = (m : Int) := by rw [IntKind.wrap_i64]; omega
    have hcw : wrap64 (m : Int) = (m : Int) := by unfold wrap64; omega
    have hw1 : IntKind.i64.wrap ((l.length : Int) + 1) = (l.length : Int) + 1 := by rw [IntKind.wrap_i64]; omega
    have hw2 : wrap64 ((l.length : Int) + 1) = (l.length : Int) + 1 := by unfold wrap64; omega
    have hne : ((l.length : Int) + 1 == 0) = false := beq_eq_false_iff_ne.mpr (by omega)
    have hmod : Int.tmod (m : Int) ((l.length : Int) + 1) = (n : Int) := by
      rw [Int.tmod_eq_emod_of_nonneg (by omega), ← hn]
      norm_cast
    have HNL := Lib.hid hnl
    obtain ⟨Z, hZ, hz, hzs, hzn⟩ := zero_of zeroTr_ok zT_size
    have HS := Lib.hid hzs
    have hs1 : ∀ W, (Instr.slice 28 (.slice A l.length c) none (some (.int .i64 (n : Int))) none).run Tryd.prog W = .ok (.slice A n c) W := fun W => tyKy.slice_to W A l.length c n (by omega)
    have hs2 : ∀ W, (Instr.slice 28 (.slice A l.length c) (some (.int .i64 (n : Int))) none none).run Tryd.prog W = .ok (.slice (cutA 32 c n A) (l.length - n) (c - n)) W := fun W => tyKy.slice_from W A l.length c n (by omega)
    have h1 : (l.take n).length < 4294967296 := by rw [List.length_take]; omega
    have O1 := Lib.hid (show ∀ W, Below w.heap.size w W → Calls Tryd.prog 19 #[.slice A n c] W fun e w' => e = .returned (.agg (ofT (l.take n) h1).cells.toArray) ∧ Below W.heap.size W w' from fun W hb => by
      have := HO A c (l.take n) (by rw [List.length_take]; omega) W (((hl.below hb).more hb.size).take encK_len n) (RR.out _ hb)
      have e : (l.take n).length = n := by rw [List.length_take]; omega
      simpa only [e] using this)
    have L1 := Lib.hid (show ∀ W, Below w.heap.size w W → Calls Tryd.prog 11 #[.agg (ofT (l.take n) h1).cells.toArray, .slice (cutA 32 c n A) (l.length - n) (c - n)] W fun e w' => e = .returned (.tuple #[.agg (ofT l h32).cells.toArray, .int .i64 0]) ∧ Below W.heap.size W w' from fun W hb => by
      have := HL' (ofT (l.take n) h1) (cutA 32 c n A) (c - n) (l.drop n) W (by rw [List.length_drop]; omega) (((hl.below hb).more hb.size).drop encK_len n hnl) (RR.out _ hb)
      rw [allT_of (l.drop n) (l.take n) h1 (by rw [List.take_append_drop]; exact h32) (by rw [List.take_append_drop]; omega), List.length_drop] at this
      have e : ofT (l.take n ++ l.drop n) (by rw [List.take_append_drop]; exact h32) = ofT l h32 := TrV.ext' (by rw [ofT_V, ofT_V, List.take_append_drop])
      rw [e] at this
      exact this)
    obtain ⟨t1, ht1⟩ : ∃ t1, ofT (l.take n) h1 = t1 := ⟨_, rfl⟩
    rw [ht1] at O1 L1
    clear hl hR hat hcu hle hn hnl hZ hzs ht1
    go_enter Tryd.func5, Tryd.ntmps5
    go_wp2_with fail
    refine (SH.out _ R0.out).mono ?_
    rintro e w1 ⟨rfl, b1⟩
    have B1 := Lib.hid b1
    clear b1
    go_wp2_with fail
    have H1 := Lib.hid (show Holds w [] w1.drew from ⟨B1.out.drew, fun _ h => by cases h⟩)
    refine wp_region_held_drew (S := fun _ => True) (by kernel_rfl) trivial ?_
    intro hS
    refine wpAnyH_take (i := 0) (v := .slice A l.length c) rfl (by kernel_rfl) (by kernel_rfl) (by kernel_rfl) (fun _ _ _ h => h) (Or.inl ⟨by rfl, fun W _ => by go_simp; try with_reducible rfl⟩) hS ?_
    simp only [Act.put, List.getElem_toArray, List.getElem_cons_zero, List.setIfInBounds_toArray, List.set_cons_succ, List.set_cons_zero]
    refine wpAnyH_take (i := 1) (v := .int .i64 n) rfl (by kernel_rfl) (by kernel_rfl) (by kernel_rfl) (fun _ _ _ h => h) (Or.inl ⟨by rfl, fun W _ => by go_simp; try with_reducible rfl⟩) hS ?_
    simp only [Act.put, List.getElem_toArray, List.getElem_cons_zero, List.getElem_cons_succ, List.setIfInBounds_toArray, List.set_cons_succ, List.set_cons_zero]
    refine wpAnyH_take (i := 2) (v := .slice A n c) rfl (by kernel_rfl) (by kernel_rfl) (by kernel_rfl) (fun _ _ _ h => h) (Or.inl ⟨by rfl, fun W _ => by go_simp; try with_reducible rfl⟩) hS ?_
    simp only [Act.put, List.getElem_toArray, List.getElem_cons_zero, List.getElem_cons_succ, List.setIfInBounds_toArray, List.set_cons_succ, List.set_cons_zero]
    refine wpAnyH_take (i := 4) (v := .slice A l.length c) rfl (by kernel_rfl) (by kernel_rfl) (by kernel_rfl) (fun _ _ _ h => h) (Or.inl ⟨by rfl, fun W _ => by go_simp; try with_reducible rfl⟩) hS ?_
    simp only [Act.put, List.getElem_toArray, List.getElem_cons_zero, List.getElem_cons_succ, List.setIfInBounds_toArray, List.set_cons_succ, List.set_cons_zero]
    refine wpAnyH_take (i := 5) (v := .int .i64 n) rfl (by kernel_rfl) (by kernel_rfl) (by kernel_rfl) (fun _ _ _ h => h) (Or.inl ⟨by rfl, fun W _ => by go_simp; try with_reducible rfl⟩) hS ?_
    simp only [Act.put, List.getElem_toArray, List.getElem_cons_zero, List.getElem_cons_succ, List.setIfInBounds_toArray, List.set_cons_succ, List.set_cons_zero]
    refine wpAnyH_take (i := 6) (v := .slice (cutA 32 c n A) (l.length - n) (c - n)) rfl (by kernel_rfl) (by kernel_rfl) (by kernel_rfl) (fun _ _ _ h => h) (Or.inl ⟨by rfl, fun W _ => by go_simp; try with_reducible rfl⟩) hS ?_
    simp only [Act.put, List.getElem_toArray, List.getElem_cons_zero, List.getElem_cons_succ, List.setIfInBounds_toArray, List.set_cons_succ, List.set_cons_zero]
    refine wpAnyH_ready (rs := [3, 11]) (by kernel_rfl) (by simp) ?_
    refine AllReadyH.cons rfl (fun Kq hK => ?_) (AllReadyH.cons rfl (fun Kq hK => ?_) AllReadyH.nil)
    · go_simp
      with_reducible refine (O1.out _ H1.out.below).mono ?_
      rintro e x1 ⟨rfl, bq⟩
      have H2 := Lib.hid (H1.out.call bq)
      refine hK.out _ _ trivial (fun hS => ?_)
      clear hK Kq bq
      refine wpAnyH_ready (rs := [7, 11]) (by kernel_rfl) (by simp) ?_
      refine AllReadyH.cons rfl (fun Kq hK => ?_) (AllReadyH.cons rfl (fun Kq hK => ?_) AllReadyH.nil)
      · go_simp
        with_reducible refine (L1.out _ H2.out.below).mono ?_
        rintro e x2 ⟨rfl, bq⟩
        have H3 := Lib.hid (H2.out.call bq)
        refine hK.out _ _ trivial (fun hS => ?_)
        clear hK Kq bq
        refine wpAnyH_take (i := 8) (v := .tuple #[.agg (ofT l h32).cells.toArray, .int .i64 0]) rfl (by kernel_rfl) (by kernel_rfl) (by kernel_rfl) (fun _ _ _ h => h) (Or.inl ⟨by rfl, fun W _ => by go_simp; try with_reducible rfl⟩) hS ?_
        simp only [Act.put, List.getElem_toArray, List.getElem_cons_zero, List.getElem_cons_succ, List.setIfInBounds_toArray, List.set_cons_succ, List.set_cons_zero]
        refine wpAnyH_take (i := 9) (v := .agg (ofT l h32).cells.toArray) rfl (by kernel_rfl) (by kernel_rfl) (by kernel_rfl) (fun _ _ _ h => h) (Or.inl ⟨by rfl, fun W _ => by go_simp; try with_reducible rfl⟩) hS ?_
        simp only [Act.put, List.getElem_toArray, List.getElem_cons_zero, List.getElem_cons_succ, List.setIfInBounds_toArray, List.set_cons_succ, List.set_cons_zero]
        refine wpAnyH_take (i := 10) (v := .int .i64 0) rfl (by kernel_rfl) (by kernel_rfl) (by kernel_rfl) (fun _ _ _ h => h) (Or.inl ⟨by rfl, fun W _ => by go_simp; try with_reducible rfl⟩) hS ?_
        simp only [Act.put, List.getElem_toArray, List.getElem_cons_zero, List.getElem_cons_succ, List.setIfInBounds_toArray, List.set_cons_succ, List.set_cons_zero]
        refine wpAnyH_ready (rs := [11]) (by kernel_rfl) (by simp) ?_
        refine AllReadyH.cons rfl (fun Kq hK => ?_) AllReadyH.nil
        go_simp
        have H4 := Lib.hid (show Holds w _ ((x2.alloc (.cells Z 27))) from H3.out.box 27 Z)
        refine hK.out _ ((x2.alloc (.cells Z 27))) trivial (fun hS => ?_)
        clear hK Kq
        have H4g := Lib.hid (show w.heap.size ≤ x2.heap.size from H3.out.below.size)
        refine wpAnyH_ready (rs := [12]) (by kernel_rfl) (by simp) ?_
        refine AllReadyH.cons rfl (fun Kq hK => ?_) AllReadyH.nil
        refine tyTr.step_store rfl (.tmp 6) (.tmp 35) rfl rfl (x2.heap.size) (ofT l h32) rfl rfl 27 Z (H4.out.at (x := (x2.heap.size, 27, Z)) (by simp)) HS.out ?_
        intro w3 o3 b3
        have H6 := Lib.hid (H4.out.turn o3 b3 (H4g.out) (by simp))
        refine hK.out _ _ trivial (fun hS => ?_)
        clear hK Kq o3 b3
        refine wpAnyH_ready (rs := [13]) (by kernel_rfl) (by simp) ?_
        refine AllReadyH.cons rfl (fun Kq hK => ?_) AllReadyH.nil
        go_simp
        refine hK.out _ _ trivial (fun _ => ?_)
        clear hK Kq hS
        refine wpAnyH_done (by kernel_rfl) ?_ _
        go_wp2_with fail
        refine (HO none 0 [] (by simp) w3 (RowIn.nil (by omega)) (RR.out _ H6.out.below)).mono ?_
        rintro e w4 ⟨rfl, b4⟩
        have H7 := Lib.hid (H6.out.call b4)
        clear b4
        go_wp2_with ((with_reducible refine at_store 8 37 ?_); refine tyTr.wpList_store rfl (.tmp 8) (.tmp 37) rfl rfl w4.heap.size (ofT [] (by simp)) rfl rfl 27 Z (Blk.new w4 27 Z) (by rw [HS.out]) ?_; intro w5 o5 b5
                     have H8 := Lib.hid (H7.out.put o5 b5)
                     clear o5 b5)
        have LG := Lib.hid (show w.heap.size ≤ w4.heap.size ∧ x2.heap.size < w4.heap.size from ⟨H7.out.below.size, (H7.out.at (x := (x2.heap.size, 27, (ofT l h32).cells.toArray)) (by simp)).lt⟩)
        obtain ⟨g8, hg8⟩ : ∃ g, w4.heap.size = g := ⟨_, rfl⟩
        rw [hg8] at H8 LG ⊢
        clear hg8
        go_loopw [9] (fun i wr => ∃ (n : Nat) (hn : n ≤ l.length) (h3 : (l.take n).length < 4294967296), i = .int .i64 n ∧ Hid (Holds w ((g8, 27, (ofT (l.take n) h3).cells.toArray) :: (x2.heap.size, 27, (ofT l h32).cells.toArray) :: []) wr)) (fun i _ => l.length - (intOf i).toNat)
        case atStart => exact ⟨0, by omega, by simp, rfl, H8⟩
        case round =>
          clear H8
          obtain ⟨i, hil, hi32, rfl, AS⟩ := hrel
          by_cases hlt : i < l.length
          · obtain ⟨g, o, hA, hg, hc⟩ := (HL.out.below AS.out.below).at encK_len hlt
            obtain ⟨x, hx⟩ : ∃ x, l[i] = x := ⟨_, rfl⟩
            rw [hx] at hc
            have h4 : (l.take (i + 1)).length < 4294967296 := by rw [List.length_take]; omega
            have ha : appT (ofT (l.take i) hi32) x = (ofT (l.take (i + 1)) h4, 0) := by
              have e : l.take (i + 1) = l.take i ++ [x] := by rw [List.take_succ_eq_append_getElem hlt, hx]
              have h5 : (l.take i ++ [x]).length < 4294967296 := by rw [← e]; exact h4
              rw [appT_of (l.take i) x (by rw [List.length_take]; omega) hi32 h5]
              congr 1
              exact TrV.ext' (by rw [ofT_V, ofT_V, e])
            have HAX := Lib.hid ha
            have HCI := Lib.hid (show (l.take (i + 1)).length = i + 1 by rw [List.length_take]; omega)
            obtain ⟨u, hu⟩ : ∃ u, ofT (l.take i) hi32 = u := ⟨_, rfl⟩
            obtain ⟨v, hv⟩ : ∃ v, ofT (l.take (i + 1)) h4 = v := ⟨_, rfl⟩
            have HVC := Lib.hid (show v.c = i + 1 by rw [← hv]; exact HCI.out)
            have HV := Lib.hid hv
            rw [hu, hv] at HAX
            rw [hu] at AS
            subst hA
            have HC := Lib.hid hc
            have HG := Lib.hid hg
            have hcu : IntKind.u32.wrap (i : Int) = (i : Int) := by have := H60.out; rw [IntKind.wrap_u32']; omega
            have hcu1 : IntKind.u32.wrap ((i : Int) + 1) = (i : Int) + 1 := by have := H60.out; rw [IntKind.wrap_u32']; omega
            clear hx hc hg ha hu hv
            go_wp2_with fail
            have E0 := Lib.hid (show Holds w ((g8, 27, u.cells.toArray) :: (x2.heap.size, 27, (ofT l h32).cells.toArray) :: []) wr.drew from ⟨AS.out.below.drew, AS.out.blks⟩)
            have X0 := Lib.hid (show RowC wr.drew g (o + i * 32) (encK x) from HC.out)
            refine wp_region_held_drew (S := fun W => RowC W g8 0 u.cells ∧ RowC W g (o + i * 32) (encK x)) (by kernel_rfl) ⟨RowC.of_blk (E0.out.at (x := (g8, 27, u.cells.toArray)) (by simp)), X0.out⟩ ?_
            clear AS HC
            intro hS
            refine wpAnyH_take (i := 0) (v := .agg u.cells.toArray) rfl (by kernel_rfl) (by kernel_rfl) (by kernel_rfl) (fun _ _ _ h => h) (tyTr.yieldsIf_load (by rfl) (.tmp 8) rfl g8 0 rfl u (fun _ h => h.1)) hS ?_
            simp only [Act.put, List.getElem_toArray, List.getElem_cons_zero, List.setIfInBounds_toArray, List.set_cons_succ, List.set_cons_zero]
            refine wpAnyH_take (i := 1) (v := .slice (some ⟨g, o, none⟩) l.length c) rfl (by kernel_rfl) (by kernel_rfl) (by kernel_rfl) (fun _ _ _ h => h) (Or.inl ⟨by rfl, fun W _ => by go_simp; try with_reducible rfl⟩) hS ?_
            simp only [Act.put, List.getElem_toArray, List.getElem_cons_zero, List.getElem_cons_succ, List.setIfInBounds_toArray, List.set_cons_succ, List.set_cons_zero]
            refine wpAnyH_take (i := 2) (v := .int .i64 i) rfl (by kernel_rfl) (by kernel_rfl) (by kernel_rfl) (fun _ _ _ h => h) (Or.inl ⟨by rfl, fun W _ => by go_simp; try with_reducible rfl⟩) hS ?_
            simp only [Act.put, List.getElem_toArray, List.getElem_cons_zero, List.getElem_cons_succ, List.setIfInBounds_toArray, List.set_cons_succ, List.set_cons_zero]
            refine wpAnyH_take (i := 3) (v := .pointer (some ⟨g, o + i * 32, none⟩)) rfl (by kernel_rfl) (by kernel_rfl) (by kernel_rfl) (fun _ _ _ h => h) (Or.inl ⟨by rfl, fun W _ => by go_simp; try with_reducible rfl⟩) hS ?_
            simp only [Act.put, List.getElem_toArray, List.getElem_cons_zero, List.getElem_cons_succ, List.setIfInBounds_toArray, List.set_cons_succ, List.set_cons_zero]
            refine wpAnyH_take (i := 4) (v := .agg (encK x).toArray) rfl (by kernel_rfl) (by kernel_rfl) (by kernel_rfl) (fun _ _ _ h => h) (tyKc.yieldsIf_load (by rfl) (.tmp 48) rfl g (o + i * 32) rfl x (fun _ h => h.2)) hS ?_
            simp only [Act.put, List.getElem_toArray, List.getElem_cons_zero, List.getElem_cons_succ, List.setIfInBounds_toArray, List.set_cons_succ, List.set_cons_zero]
            refine wpAnyH_ready (rs := [5, 9]) (by kernel_rfl) (by simp) ?_
            refine AllReadyH.cons rfl (fun Kq hK => ?_) (AllReadyH.cons rfl (fun Kq hK => ?_) AllReadyH.nil)
            · go_simp
              with_reducible refine (HP u x _ (RR.out _ E0.out.below)).mono ?_
              rintro e z1 ⟨rfl, bq⟩
              rw [HAX.out]
              have E1 := Lib.hid (E0.out.call bq)
              have X1 := Lib.hid (X0.out.below bq (Nat.lt_of_lt_of_le HG.out E0.out.below.size))
              refine hK.out _ _ ⟨RowC.of_blk (E1.out.at (x := (g8, 27, u.cells.toArray)) (by simp)), X1.out⟩ (fun hS => ?_)
              have GQ := Lib.hid (show wr.heap.size ≤ z1.heap.size from bq.size)
              clear hK Kq bq
              refine wpAnyH_take (i := 6) (v := .tuple #[.agg v.cells.toArray, .int .i64 0]) rfl (by kernel_rfl) (by kernel_rfl) (by kernel_rfl) (fun _ _ _ h => h) (Or.inl ⟨by rfl, fun W _ => by go_simp; try with_reducible rfl⟩) hS ?_
              simp only [Act.put, List.getElem_toArray, List.getElem_cons_zero, List.getElem_cons_succ, List.setIfInBounds_toArray, List.set_cons_succ, List.set_cons_zero]
              refine wpAnyH_take (i := 7) (v := .agg v.cells.toArray) rfl (by kernel_rfl) (by kernel_rfl) (by kernel_rfl) (fun _ _ _ h => h) (Or.inl ⟨by rfl, fun W _ => by go_simp; try with_reducible rfl⟩) hS ?_
              simp only [Act.put, List.getElem_toArray, List.getElem_cons_zero, List.getElem_cons_succ, List.setIfInBounds_toArray, List.set_cons_succ, List.set_cons_zero]
              refine wpAnyH_take (i := 8) (v := .int .i64 0) rfl (by kernel_rfl) (by kernel_rfl) (by kernel_rfl) (fun _ _ _ h => h) (Or.inl ⟨by rfl, fun W _ => by go_simp; try with_reducible rfl⟩) hS ?_
              simp only [Act.put, List.getElem_toArray, List.getElem_cons_zero, List.getElem_cons_succ, List.setIfInBounds_toArray, List.set_cons_succ, List.set_cons_zero]
              refine wpAnyH_ready (rs := [9]) (by kernel_rfl) (by simp) ?_
              refine AllReadyH.cons rfl (fun Kq hK => ?_) AllReadyH.nil
              go_simp
              have E2 := Lib.hid (show Holds w _ ((z1.alloc (.cells Z 27))) from E1.out.box 27 Z)
              have X2 := Lib.hid (show RowC ((z1.alloc (.cells Z 27))) g (o + i * 32) (encK x) from X1.out.below (B := z1.heap.size) ((Below.refl _ _).alloc (Nat.le_refl _) (.cells Z 27)) (Nat.lt_of_lt_of_le HG.out E1.out.below.size))
              refine hK.out _ ((z1.alloc (.cells Z 27))) ⟨RowC.of_blk (E2.out.at (x := (g8, 27, u.cells.toArray)) (by simp)), X2.out⟩ (fun hS => ?_)
              clear hK Kq
              refine wpAnyH_ready (rs := [10]) (by kernel_rfl) (by simp) ?_
              refine AllReadyH.cons rfl (fun Kq hK => ?_) AllReadyH.nil
              have GX := Lib.hid (show g8 ≠ z1.heap.size ∧ x2.heap.size ≠ z1.heap.size ∧ w.heap.size ≤ z1.heap.size from by
                have h1 := (E0.out.at (x := (g8, 27, u.cells.toArray)) (by simp)).lt
                have h2 := (E0.out.at (x := (x2.heap.size, 27, (ofT l h32).cells.toArray)) (by simp)).lt
                have h3 := E0.out.below.size
                have h4 := GQ.out
                simp at h1 h2 h3 h4
                omega)
              refine tyTr.step_store rfl (.tmp 10) (.tmp 51) rfl rfl (z1.heap.size) v rfl rfl 27 Z (E2.out.at (x := (z1.heap.size, 27, Z)) (by simp)) HS.out ?_
              intro w7 o7 b7
              have E4 := Lib.hid (show Holds w ((z1.heap.size, 27, v.cells.toArray) :: (g8, 27, u.cells.toArray) :: (x2.heap.size, 27, (ofT l h32).cells.toArray) :: []) w7 from Holds.turn E2.out o7 b7 GX.out.2.2 (by intro y hy; simp at hy; rcases hy with rfl | rfl; exact GX.out.1; exact GX.out.2.1))
              have X4 := Lib.hid (X2.out.below (o7.below (B := w.heap.size) (by have := GX.out.2.2; simpa using this)) HG.out)
              refine hK.out _ _ ⟨RowC.of_blk (E4.out.at (x := (g8, 27, u.cells.toArray)) (by simp)), X4.out⟩ (fun hS => ?_)
              clear hK Kq o7 b7
              refine wpAnyH_ready (rs := [11]) (by kernel_rfl) (by simp) ?_
              refine AllReadyH.cons rfl (fun Kq hK => ?_) AllReadyH.nil
              go_simp
              refine hK.out _ _ hS (fun _ => ?_)
              clear hK Kq hS
              refine wpAnyH_done (by kernel_rfl) ?_ _
              have KV := E4.out.at (x := (z1.heap.size, 27, v.cells.toArray)) (by simp)
              have cV : w7.cell? ⟨z1.heap.size, 0, none⟩ = some (.int .u32 ((i : Int) + 1)) := by
                have := TrV.c0 (t := v) (RowC.of_blk KV)
                rw [HVC.out] at this
                exact this
              clear KV
              go_wp2_with (first
                | ((with_reducible refine at_load 10 ?_); refine tyTr.wpList_load rfl (.tmp 10) rfl (z1.heap.size) 0 rfl v (RowC.of_blk (E4.out.at (x := (z1.heap.size, 27, v.cells.toArray)) (by simp))) ?_)
                | ((with_reducible refine at_store 8 63 ?_); refine tyTr.wpList_store rfl (.tmp 8) (.tmp 63) rfl rfl g8 v rfl rfl 27 _ (E4.out.at (x := (g8, 27, u.cells.toArray)) (by simp)) (by rw [tyTr.arr]) ?_; intro w8 o8 b8
                   have E5 := Lib.hid (show Holds w ((g8, 27, v.cells.toArray) :: (x2.heap.size, 27, (ofT l h32).cells.toArray) :: []) w8 from Holds.turn ⟨E4.out.below, fun y hy => E4.out.blks y (List.mem_cons_of_mem _ hy)⟩ o8 b8 LG.out.1 (by intro y hy; simp at hy; subst hy; have := LG.out.2; simp; omega))
                   clear o8 b8))
              go_roundw
              case rel => exact ⟨i + 1, by omega, h4, by go_num, by rw [HV.out]; exact E5⟩
              case measure => simp [intOf]; omega
            · go_simp
              have E2 := Lib.hid (show Holds w _ ((wr.alloc (.cells Z 27)).drew) from E0.out.box 27 Z)
              have X2 := Lib.hid (show RowC ((wr.alloc (.cells Z 27)).drew) g (o + i * 32) (encK x) from X0.out.below (B := wr.drew.heap.size) ((Below.refl _ _).alloc (Nat.le_refl _) (.cells Z 27)) (Nat.lt_of_lt_of_le HG.out E0.out.below.size))
              refine hK.out _ ((wr.alloc (.cells Z 27)).drew) ⟨RowC.of_blk (E2.out.at (x := (g8, 27, u.cells.toArray)) (by simp)), X2.out⟩ (fun hS => ?_)
              clear hK Kq
              refine wpAnyH_ready (rs := [5]) (by kernel_rfl) (by simp) ?_
              refine AllReadyH.cons rfl (fun Kq hK => ?_) AllReadyH.nil
              go_simp
              with_reducible refine (HP u x _ (RR.out _ E2.out.below)).mono ?_
              rintro e z1 ⟨rfl, bq⟩
              rw [HAX.out]
              have E3 := Lib.hid (E2.out.call bq)
              have X3 := Lib.hid (X2.out.below bq (Nat.lt_of_lt_of_le HG.out E2.out.below.size))
              refine hK.out _ _ ⟨RowC.of_blk (E3.out.at (x := (g8, 27, u.cells.toArray)) (by simp)), X3.out⟩ (fun hS => ?_)
              clear hK Kq bq
              refine wpAnyH_take (i := 6) (v := .tuple #[.agg v.cells.toArray, .int .i64 0]) rfl (by kernel_rfl) (by kernel_rfl) (by kernel_rfl) (fun _ _ _ h => h) (Or.inl ⟨by rfl, fun W _ => by go_simp; try with_reducible rfl⟩) hS ?_
              simp only [Act.put, List.getElem_toArray, List.getElem_cons_zero, List.getElem_cons_succ, List.setIfInBounds_toArray, List.set_cons_succ, List.set_cons_zero]
              refine wpAnyH_take (i := 7) (v := .agg v.cells.toArray) rfl (by kernel_rfl) (by kernel_rfl) (by kernel_rfl) (fun _ _ _ h => h) (Or.inl ⟨by rfl, fun W _ => by go_simp; try with_reducible rfl⟩) hS ?_
              simp only [Act.put, List.getElem_toArray, List.getElem_cons_zero, List.getElem_cons_succ, List.setIfInBounds_toArray, List.set_cons_succ, List.set_cons_zero]
              refine wpAnyH_take (i := 8) (v := .int .i64 0) rfl (by kernel_rfl) (by kernel_rfl) (by kernel_rfl) (fun _ _ _ h => h) (Or.inl ⟨by rfl, fun W _ => by go_simp; try with_reducible rfl⟩) hS ?_
              simp only [Act.put, List.getElem_toArray, List.getElem_cons_zero, List.getElem_cons_succ, List.setIfInBounds_toArray, List.set_cons_succ, List.set_cons_zero]
              have GQ := Lib.hid (show wr.heap.size ≤ wr.heap.size from Nat.le_refl _)
              refine wpAnyH_ready (rs := [10]) (by kernel_rfl) (by simp) ?_
              refine AllReadyH.cons rfl (fun Kq hK => ?_) AllReadyH.nil
              have GX := Lib.hid (show g8 ≠ wr.heap.size ∧ x2.heap.size ≠ wr.heap.size ∧ w.heap.size ≤ wr.heap.size from by
                have h1 := (E0.out.at (x := (g8, 27, u.cells.toArray)) (by simp)).lt
                have h2 := (E0.out.at (x := (x2.heap.size, 27, (ofT l h32).cells.toArray)) (by simp)).lt
                have h3 := E0.out.below.size
                have h4 := GQ.out
                simp at h1 h2 h3 h4
                omega)
              refine tyTr.step_store rfl (.tmp 10) (.tmp 51) rfl rfl (wr.heap.size) v rfl rfl 27 Z (E3.out.at (x := (wr.heap.size, 27, Z)) (by simp)) HS.out ?_
              intro w7 o7 b7
              have E4 := Lib.hid (show Holds w ((wr.heap.size, 27, v.cells.toArray) :: (g8, 27, u.cells.toArray) :: (x2.heap.size, 27, (ofT l h32).cells.toArray) :: []) w7 from Holds.turn E3.out o7 b7 GX.out.2.2 (by intro y hy; simp at hy; rcases hy with rfl | rfl; exact GX.out.1; exact GX.out.2.1))
              have X4 := Lib.hid (X3.out.below (o7.below (B := w.heap.size) (by have := GX.out.2.2; simpa using this)) HG.out)
              refine hK.out _ _ ⟨RowC.of_blk (E4.out.at (x := (g8, 27, u.cells.toArray)) (by simp)), X4.out⟩ (fun hS => ?_)
              clear hK Kq o7 b7
              refine wpAnyH_ready (rs := [11]) (by kernel_rfl) (by simp) ?_
              refine AllReadyH.cons rfl (fun Kq hK => ?_) AllReadyH.nil
              go_simp
              refine hK.out _ _ hS (fun _ => ?_)
              clear hK Kq hS
              refine wpAnyH_done (by kernel_rfl) ?_ _
              have KV := E4.out.at (x := (wr.heap.size, 27, v.cells.toArray)) (by simp)
              have cV : w7.cell? ⟨wr.heap.size, 0, none⟩ = some (.int .u32 ((i : Int) + 1)) := by
                have := TrV.c0 (t := v) (RowC.of_blk KV)
                rw [HVC.out] at this
                exact this
              clear KV
              go_wp2_with (first
                | ((with_reducible refine at_load 10 ?_); refine tyTr.wpList_load rfl (.tmp 10) rfl (wr.heap.size) 0 rfl v (RowC.of_blk (E4.out.at (x := (wr.heap.size, 27, v.cells.toArray)) (by simp))) ?_)
                | ((with_reducible refine at_store 8 63 ?_); refine tyTr.wpList_store rfl (.tmp 8) (.tmp 63) rfl rfl g8 v rfl rfl 27 _ (E4.out.at (x := (g8, 27, u.cells.toArray)) (by simp)) (by rw [tyTr.arr]) ?_; intro w8 o8 b8
                   have E5 := Lib.hid (show Holds w ((g8, 27, v.cells.toArray) :: (x2.heap.size, 27, (ofT l h32).cells.toArray) :: []) w8 from Holds.turn ⟨E4.out.below, fun y hy => E4.out.blks y (List.mem_cons_of_mem _ hy)⟩ o8 b8 LG.out.1 (by intro y hy; simp at hy; subst hy; have := LG.out.2; simp; omega))
                   clear o8 b8))
              go_roundw
              case rel => exact ⟨i + 1, by omega, h4, by go_num, by rw [HV.out]; exact E5⟩
              case measure => simp [intOf]; omega
          · obtain rfl : i = l.length := by omega
            have E6 := Lib.hid (show Holds w ((g8, 27, (ofT l h32).cells.toArray) :: (x2.heap.size, 27, (ofT l h32).cells.toArray) :: []) wr from by
              have e : ofT (l.take l.length) hi32 = ofT l h32 := TrV.ext' (by rw [ofT_V, ofT_V, List.take_length])
              rw [← e]
              have := AS.out
              rwa [e] at this ⊢)
            clear AS
            have h6W := Lib.hid (fun (W : World) (hC : From wr W) => show RowC W (x2.heap.size) 0 (ofT l h32).cells from RowC.of_blk ((E6.out.call hC.below).at (x := (x2.heap.size, 27, (ofT l h32).cells.toArray)) (by simp)))
            have h8W := Lib.hid (fun (W : World) (hC : From wr W) => show RowC W g8 0 (ofT l h32).cells from RowC.of_blk ((E6.out.call hC.below).at (x := (g8, 27, (ofT l h32).cells.toArray)) (by simp)))
            have cW := Lib.hid (fun (W : World) (hC : From wr W) => show W.cell? ⟨x2.heap.size, 0, none⟩ = some (.int .u32 l.length) from TrV.c0 (t := ofT l h32) (h6W.out W hC))
            have OW := Lib.hid (fun (W : World) (hC : From wr W) => HO A c l (by have := H60.out; omega) W ((HL.out.below (E6.out.call hC.below).below).more (E6.out.call hC.below).below.size) (RR.out _ (E6.out.call hC.below).below))
            obtain ⟨y, hy⟩ : ∃ y, ofT l h32 = y := ⟨_, rfl⟩
            have hcl : IntKind.i64.wrap (l.length : Int) = (l.length : Int) := by have := H60.out; rw [IntKind.wrap_i64]; omega
            rw [hy] at h6W h8W OW
            clear hy
            go_wp2_with fail
            refine wp_region_from (by kernel_rfl) (by kernel_rfl) ?_
            repeat (first
              | go_big_quiet_skip
              | ((with_reducible refine at_qload 6 ?_); refine tyTr.wpQuiet_load (by rfl) (.tmp 6) rfl (x2.heap.size) 0 rfl y h6W.out ?_; simp only [Act.put, List.setIfInBounds_toArray, List.set_cons_succ, List.set_cons_zero])
              | ((with_reducible refine at_qload 8 ?_); refine tyTr.wpQuiet_load (by rfl) (.tmp 8) rfl g8 0 rfl y h8W.out ?_; simp only [Act.put, List.setIfInBounds_toArray, List.set_cons_succ, List.set_cons_zero])
              | ((with_reducible refine at_qload 78 ?_); refine wpQuiet_load_one (by rfl) 22 (.tmp 78) rfl ⟨x2.heap.size, 0, none⟩ rfl (.int .u32 l.length) Tryd.isAgg22 cW.out ?_; simp only [Act.put, List.setIfInBounds_toArray, List.set_cons_succ, List.set_cons_zero])
              | ((with_reducible refine at_qeql 67 68 ?_); refine wpQuiet_eql_row (by rfl) 27 27 (.tmp 67) (.tmp 68) rfl y.cells.toArray y.cells.toArray rfl rfl (by kernel_rfl) true (eqTr_run y) ?_; simp only [Act.put, List.setIfInBounds_toArray, List.set_cons_succ, List.set_cons_zero])
              | ((with_reducible refine at_qeql 72 74 ?_); refine wpQuiet_eql_row (by rfl) 27 27 (.tmp 72) (.tmp 74) rfl y.cells.toArray y.cells.toArray rfl rfl (by kernel_rfl) true (eqTr_run y) ?_; simp only [Act.put, List.setIfInBounds_toArray, List.set_cons_succ, List.set_cons_zero])
              | (go_big_quiet_want; go_big_quiet_op; refine ⟨_, fun _ _ => by with_reducible rfl, ?_⟩; go_big_quiet_on)
              | go_big_quiet_step ((intro hC; first
                  | (go_at_call 19; with_reducible exact (OW.out _ hC).mono fun _ _ h => ⟨h.1, hC.call h.2⟩)
                  | fail)))
            refine wpQuiet_nil ?_
            intro wz hC
            have HZ9 := Lib.hid (E6.out.call hC.below)
            clear hC
            go_wp2_with fail
            go_ret
            exact ⟨rfl, HZ9.out.below⟩
      · go_simp
        have H3 := Lib.hid (show Holds w _ ((x1.alloc (.cells Z 27))) from H2.out.box 27 Z)
        refine hK.out _ ((x1.alloc (.cells Z 27))) trivial (fun hS => ?_)
        clear hK Kq
        have H4g := Lib.hid (show w.heap.size ≤ x1.heap.size from H2.out.below.size)
        refine wpAnyH_ready (rs := [7]) (by kernel_rfl) (by simp) ?_
        refine AllReadyH.cons rfl (fun Kq hK => ?_) AllReadyH.nil
        go_simp
        with_reducible refine (L1.out _ H3.out.below).mono ?_
        rintro e x2 ⟨rfl, bq⟩
        have H4 := Lib.hid (H3.out.call bq)
        refine hK.out _ _ trivial (fun hS => ?_)
        clear hK Kq bq
        refine wpAnyH_take (i := 8) (v := .tuple #[.agg (ofT l h32).cells.toArray, .int .i64 0]) rfl (by kernel_rfl) (by kernel_rfl) (by kernel_rfl) (fun _ _ _ h => h) (Or.inl ⟨by rfl, fun W _ => by go_simp; try with_reducible rfl⟩) hS ?_
        simp only [Act.put, List.getElem_toArray, List.getElem_cons_zero, List.getElem_cons_succ, List.setIfInBounds_toArray, List.set_cons_succ, List.set_cons_zero]
        refine wpAnyH_take (i := 9) (v := .agg (ofT l h32).cells.toArray) rfl (by kernel_rfl) (by kernel_rfl) (by kernel_rfl) (fun _ _ _ h => h) (Or.inl ⟨by rfl, fun W _ => by go_simp; try with_reducible rfl⟩) hS ?_
        simp only [Act.put, List.getElem_toArray, List.getElem_cons_zero, List.getElem_cons_succ, List.setIfInBounds_toArray, List.set_cons_succ, List.set_cons_zero]
        refine wpAnyH_take (i := 10) (v := .int .i64 0) rfl (by kernel_rfl) (by kernel_rfl) (by kernel_rfl) (fun _ _ _ h => h) (Or.inl ⟨by rfl, fun W _ => by go_simp; try with_reducible rfl⟩) hS ?_
        simp only [Act.put, List.getElem_toArray, List.getElem_cons_zero, List.getElem_cons_succ, List.setIfInBounds_toArray, List.set_cons_succ, List.set_cons_zero]
        refine wpAnyH_ready (rs := [12]) (by kernel_rfl) (by simp) ?_
        refine AllReadyH.cons rfl (fun Kq hK => ?_) AllReadyH.nil
        refine tyTr.step_store rfl (.tmp 6) (.tmp 35) rfl rfl (x1.heap.size) (ofT l h32) rfl rfl 27 Z (H4.out.at (x := (x1.heap.size, 27, Z)) (by simp)) HS.out ?_
        intro w3 o3 b3
        have H6 := Lib.hid (H4.out.turn o3 b3 (H4g.out) (by simp))
        refine hK.out _ _ trivial (fun hS => ?_)
        clear hK Kq o3 b3
        refine wpAnyH_ready (rs := [13]) (by kernel_rfl) (by simp) ?_
        refine AllReadyH.cons rfl (fun Kq hK => ?_) AllReadyH.nil
        go_simp
        refine hK.out _ _ trivial (fun _ => ?_)
        clear hK Kq hS
        refine wpAnyH_done (by kernel_rfl) ?_ _
        go_wp2_with fail
        refine (HO none 0 [] (by simp) w3 (RowIn.nil (by omega)) (RR.out _ H6.out.below)).mono ?_
        rintro e w4 ⟨rfl, b4⟩
        have H7 := Lib.hid (H6.out.call b4)
        clear b4
        go_wp2_with ((with_reducible refine at_store 8 37 ?_); refine tyTr.wpList_store rfl (.tmp 8) (.tmp 37) rfl rfl w4.heap.size (ofT [] (by simp)) rfl rfl 27 Z (Blk.new w4 27 Z) (by rw [HS.out]) ?_; intro w5 o5 b5
                     have H8 := Lib.hid (H7.out.put o5 b5)
                     clear o5 b5)
        have LG := Lib.hid (show w.heap.size ≤ w4.heap.size ∧ x1.heap.size < w4.heap.size from ⟨H7.out.below.size, (H7.out.at (x := (x1.heap.size, 27, (ofT l h32).cells.toArray)) (by simp)).lt⟩)
        obtain ⟨g8, hg8⟩ : ∃ g, w4.heap.size = g := ⟨_, rfl⟩
        rw [hg8] at H8 LG ⊢
        clear hg8
        go_loopw [9] (fun i wr => ∃ (n : Nat) (hn : n ≤ l.length) (h3 : (l.take n).length < 4294967296), i = .int .i64 n ∧ Hid (Holds w ((g8, 27, (ofT (l.take n) h3).cells.toArray) :: (x1.heap.size, 27, (ofT l h32).cells.toArray) :: []) wr)) (fun i _ => l.length - (intOf i).toNat)
        case atStart => exact ⟨0, by omega, by simp, rfl, H8⟩
        case round =>
          clear H8
          obtain ⟨i, hil, hi32, rfl, AS⟩ := hrel
          by_cases hlt : i < l.length
          · obtain ⟨g, o, hA, hg, hc⟩ := (HL.out.below AS.out.below).at encK_len hlt
            obtain ⟨x, hx⟩ : ∃ x, l[i] = x := ⟨_, rfl⟩
            rw [hx] at hc
            have h4 : (l.take (i + 1)).length < 4294967296 := by rw [List.length_take]; omega
            have ha : appT (ofT (l.take i) hi32) x = (ofT (l.take (i + 1)) h4, 0) := by
              have e : l.take (i + 1) = l.take i ++ [x] := by rw [List.take_succ_eq_append_getElem hlt, hx]
              have h5 : (l.take i ++ [x]).length < 4294967296 := by rw [← e]; exact h4
              rw [appT_of (l.take i) x (by rw [List.length_take]; omega) hi32 h5]
              congr 1
              exact TrV.ext' (by rw [ofT_V, ofT_V, e])
            have HAX := Lib.hid ha
            have HCI := Lib.hid (show (l.take (i + 1)).length = i + 1 by rw [List.length_take]; omega)
            obtain ⟨u, hu⟩ : ∃ u, ofT (l.take i) hi32 = u := ⟨_, rfl⟩
            obtain ⟨v, hv⟩ : ∃ v, ofT (l.take (i + 1)) h4 = v := ⟨_, rfl⟩
            have HVC := Lib.hid (show v.c = i + 1 by rw [← hv]; exact HCI.out)
            have HV := Lib.hid hv
            rw [hu, hv] at HAX
            rw [hu] at AS
            subst hA
            have HC := Lib.hid hc
            have HG := Lib.hid hg
            have hcu : IntKind.u32.wrap (i : Int) = (i : Int) := by have := H60.out; rw [IntKind.wrap_u32']; omega
            have hcu1 : IntKind.u32.wrap ((i : Int) + 1) = (i : Int) + 1 := by have := H60.out; rw [IntKind.wrap_u32']; omega
            clear hx hc hg ha hu hv
            go_wp2_with fail
            have E0 := Lib.hid (show Holds w ((g8, 27, u.cells.toArray) :: (x1.heap.size, 27, (ofT l h32).cells.toArray) :: []) wr.drew from ⟨AS.out.below.drew, AS.out.blks⟩)
            have X0 := Lib.hid (show RowC wr.drew g (o + i * 32) (encK x) from HC.out)
            refine wp_region_held_drew (S := fun W => RowC W g8 0 u.cells ∧ RowC W g (o + i * 32) (encK x)) (by kernel_rfl) ⟨RowC.of_blk (E0.out.at (x := (g8, 27, u.cells.toArray)) (by simp)), X0.out⟩ ?_
            clear AS HC
            intro hS
            refine wpAnyH_take (i := 0) (v := .agg u.cells.toArray) rfl (by kernel_rfl) (by kernel_rfl) (by kernel_rfl) (fun _ _ _ h => h) (tyTr.yieldsIf_load (by rfl) (.tmp 8) rfl g8 0 rfl u (fun _ h => h.1)) hS ?_
            simp only [Act.put, List.getElem_toArray, List.getElem_cons_zero, List.setIfInBounds_toArray, List.set_cons_succ, List.set_cons_zero]
            refine wpAnyH_take (i := 1) (v := .slice (some ⟨g, o, none⟩) l.length c) rfl (by kernel_rfl) (by kernel_rfl) (by kernel_rfl) (fun _ _ _ h => h) (Or.inl ⟨by rfl, fun W _ => by go_simp; try with_reducible rfl⟩) hS ?_
            simp only [Act.put, List.getElem_toArray, List.getElem_cons_zero, List.getElem_cons_succ, List.setIfInBounds_toArray, List.set_cons_succ, List.set_cons_zero]
            refine wpAnyH_take (i := 2) (v := .int .i64 i) rfl (by kernel_rfl) (by kernel_rfl) (by kernel_rfl) (fun _ _ _ h => h) (Or.inl ⟨by rfl, fun W _ => by go_simp; try with_reducible rfl⟩) hS ?_
            simp only [Act.put, List.getElem_toArray, List.getElem_cons_zero, List.getElem_cons_succ, List.setIfInBounds_toArray, List.set_cons_succ, List.set_cons_zero]
            refine wpAnyH_take (i := 3) (v := .pointer (some ⟨g, o + i * 32, none⟩)) rfl (by kernel_rfl) (by kernel_rfl) (by kernel_rfl) (fun _ _ _ h => h) (Or.inl ⟨by rfl, fun W _ => by go_simp; try with_reducible rfl⟩) hS ?_
            simp only [Act.put, List.getElem_toArray, List.getElem_cons_zero, List.getElem_cons_succ, List.setIfInBounds_toArray, List.set_cons_succ, List.set_cons_zero]
            refine wpAnyH_take (i := 4) (v := .agg (encK x).toArray) rfl (by kernel_rfl) (by kernel_rfl) (by kernel_rfl) (fun _ _ _ h => h) (tyKc.yieldsIf_load (by rfl) (.tmp 48) rfl g (o + i * 32) rfl x (fun _ h => h.2)) hS ?_
            simp only [Act.put, List.getElem_toArray, List.getElem_cons_zero, List.getElem_cons_succ, List.setIfInBounds_toArray, List.set_cons_succ, List.set_cons_zero]
            refine wpAnyH_ready (rs := [5, 9]) (by kernel_rfl) (by simp) ?_
            refine AllReadyH.cons rfl (fun Kq hK => ?_) (AllReadyH.cons rfl (fun Kq hK => ?_) AllReadyH.nil)
            · go_simp
              with_reducible refine (HP u x _ (RR.out _ E0.out.below)).mono ?_
              rintro e z1 ⟨rfl, bq⟩
              rw [HAX.out]
              have E1 := Lib.hid (E0.out.call bq)
              have X1 := Lib.hid (X0.out.below bq (Nat.lt_of_lt_of_le HG.out E0.out.below.size))
              refine hK.out _ _ ⟨RowC.of_blk (E1.out.at (x := (g8, 27, u.cells.toArray)) (by simp)), X1.out⟩ (fun hS => ?_)
              have GQ := Lib.hid (show wr.heap.size ≤ z1.heap.size from bq.size)
              clear hK Kq bq
              refine wpAnyH_take (i := 6) (v := .tuple #[.agg v.cells.toArray, .int .i64 0]) rfl (by kernel_rfl) (by kernel_rfl) (by kernel_rfl) (fun _ _ _ h => h) (Or.inl ⟨by rfl, fun W _ => by go_simp; try with_reducible rfl⟩) hS ?_
              simp only [Act.put, List.getElem_toArray, List.getElem_cons_zero, List.getElem_cons_succ, List.setIfInBounds_toArray, List.set_cons_succ, List.set_cons_zero]
              refine wpAnyH_take (i := 7) (v := .agg v.cells.toArray) rfl (by kernel_rfl) (by kernel_rfl) (by kernel_rfl) (fun _ _ _ h => h) (Or.inl ⟨by rfl, fun W _ => by go_simp; try with_reducible rfl⟩) hS ?_
              simp only [Act.put, List.getElem_toArray, List.getElem_cons_zero, List.getElem_cons_succ, List.setIfInBounds_toArray, List.set_cons_succ, List.set_cons_zero]
              refine wpAnyH_take (i := 8) (v := .int .i64 0) rfl (by kernel_rfl) (by kernel_rfl) (by kernel_rfl) (fun _ _ _ h => h) (Or.inl ⟨by rfl, fun W _ => by go_simp; try with_reducible rfl⟩) hS ?_
              simp only [Act.put, List.getElem_toArray, List.getElem_cons_zero, List.getElem_cons_succ, List.setIfInBounds_toArray, List.set_cons_succ, List.set_cons_zero]
              refine wpAnyH_ready (rs := [9]) (by kernel_rfl) (by simp) ?_
              refine AllReadyH.cons rfl (fun Kq hK => ?_) AllReadyH.nil
              go_simp
              have E2 := Lib.hid (show Holds w _ ((z1.alloc (.cells Z 27))) from E1.out.box 27 Z)
              have X2 := Lib.hid (show RowC ((z1.alloc (.cells Z 27))) g (o + i * 32) (encK x) from X1.out.below (B := z1.heap.size) ((Below.refl _ _).alloc (Nat.le_refl _) (.cells Z 27)) (Nat.lt_of_lt_of_le HG.out E1.out.below.size))
              refine hK.out _ ((z1.alloc (.cells Z 27))) ⟨RowC.of_blk (E2.out.at (x := (g8, 27, u.cells.toArray)) (by simp)), X2.out⟩ (fun hS => ?_)
              clear hK Kq
              refine wpAnyH_ready (rs := [10]) (by kernel_rfl) (by simp) ?_
              refine AllReadyH.cons rfl (fun Kq hK => ?_) AllReadyH.nil
              have GX := Lib.hid (show g8 ≠ z1.heap.size ∧ x1.heap.size ≠ z1.heap.size ∧ w.heap.size ≤ z1.heap.size from by
                have h1 := (E0.out.at (x := (g8, 27, u.cells.toArray)) (by simp)).lt
                have h2 := (E0.out.at (x := (x1.heap.size, 27, (ofT l h32).cells.toArray)) (by simp)).lt
                have h3 := E0.out.below.size
                have h4 := GQ.out
                simp at h1 h2 h3 h4
                omega)
              refine tyTr.step_store rfl (.tmp 10) (.tmp 51) rfl rfl (z1.heap.size) v rfl rfl 27 Z (E2.out.at (x := (z1.heap.size, 27, Z)) (by simp)) HS.out ?_
              intro w7 o7 b7
              have E4 := Lib.hid (show Holds w ((z1.heap.size, 27, v.cells.toArray) :: (g8, 27, u.cells.toArray) :: (x1.heap.size, 27, (ofT l h32).cells.toArray) :: []) w7 from Holds.turn E2.out o7 b7 GX.out.2.2 (by intro y hy; simp at hy; rcases hy with rfl | rfl; exact GX.out.1; exact GX.out.2.1))
              have X4 := Lib.hid (X2.out.below (o7.below (B := w.heap.size) (by have := GX.out.2.2; simpa using this)) HG.out)
              refine hK.out _ _ ⟨RowC.of_blk (E4.out.at (x := (g8, 27, u.cells.toArray)) (by simp)), X4.out⟩ (fun hS => ?_)
              clear hK Kq o7 b7
              refine wpAnyH_ready (rs := [11]) (by kernel_rfl) (by simp) ?_
              refine AllReadyH.cons rfl (fun Kq hK => ?_) AllReadyH.nil
              go_simp
              refine hK.out _ _ hS (fun _ => ?_)
              clear hK Kq hS
              refine wpAnyH_done (by kernel_rfl) ?_ _
              have KV := E4.out.at (x := (z1.heap.size, 27, v.cells.toArray)) (by simp)
              have cV : w7.cell? ⟨z1.heap.size, 0, none⟩ = some (.int .u32 ((i : Int) + 1)) := by
                have := TrV.c0 (t := v) (RowC.of_blk KV)
                rw [HVC.out] at this
                exact this
              clear KV
              go_wp2_with (first
                | ((with_reducible refine at_load 10 ?_); refine tyTr.wpList_load rfl (.tmp 10) rfl (z1.heap.size) 0 rfl v (RowC.of_blk (E4.out.at (x := (z1.heap.size, 27, v.cells.toArray)) (by simp))) ?_)
                | ((with_reducible refine at_store 8 63 ?_); refine tyTr.wpList_store rfl (.tmp 8) (.tmp 63) rfl rfl g8 v rfl rfl 27 _ (E4.out.at (x := (g8, 27, u.cells.toArray)) (by simp)) (by rw [tyTr.arr]) ?_; intro w8 o8 b8
                   have E5 := Lib.hid (show Holds w ((g8, 27, v.cells.toArray) :: (x1.heap.size, 27, (ofT l h32).cells.toArray) :: []) w8 from Holds.turn ⟨E4.out.below, fun y hy => E4.out.blks y (List.mem_cons_of_mem _ hy)⟩ o8 b8 LG.out.1 (by intro y hy; simp at hy; subst hy; have := LG.out.2; simp; omega))
                   clear o8 b8))
              go_roundw
              case rel => exact ⟨i + 1, by omega, h4, by go_num, by rw [HV.out]; exact E5⟩
              case measure => simp [intOf]; omega
            · go_simp
              have E2 := Lib.hid (show Holds w _ ((wr.alloc (.cells Z 27)).drew) from E0.out.box 27 Z)
              have X2 := Lib.hid (show RowC ((wr.alloc (.cells Z 27)).drew) g (o + i * 32) (encK x) from X0.out.below (B := wr.drew.heap.size) ((Below.refl _ _).alloc (Nat.le_refl _) (.cells Z 27)) (Nat.lt_of_lt_of_le HG.out E0.out.below.size))
              refine hK.out _ ((wr.alloc (.cells Z 27)).drew) ⟨RowC.of_blk (E2.out.at (x := (g8, 27, u.cells.toArray)) (by simp)), X2.out⟩ (fun hS => ?_)
              clear hK Kq
              refine wpAnyH_ready (rs := [5]) (by kernel_rfl) (by simp) ?_
              refine AllReadyH.cons rfl (fun Kq hK => ?_) AllReadyH.nil
              go_simp
              with_reducible refine (HP u x _ (RR.out _ E2.out.below)).mono ?_
              rintro e z1 ⟨rfl, bq⟩
              rw [HAX.out]
              have E3 := Lib.hid (E2.out.call bq)
              have X3 := Lib.hid (X2.out.below bq (Nat.lt_of_lt_of_le HG.out E2.out.below.size))
              refine hK.out _ _ ⟨RowC.of_blk (E3.out.at (x := (g8, 27, u.cells.toArray)) (by simp)), X3.out⟩ (fun hS => ?_)
              clear hK Kq bq
              refine wpAnyH_take (i := 6) (v := .tuple #[.agg v.cells.toArray, .int .i64 0]) rfl (by kernel_rfl) (by kernel_rfl) (by kernel_rfl) (fun _ _ _ h => h) (Or.inl ⟨by rfl, fun W _ => by go_simp; try with_reducible rfl⟩) hS ?_
              simp only [Act.put, List.getElem_toArray, List.getElem_cons_zero, List.getElem_cons_succ, List.setIfInBounds_toArray, List.set_cons_succ, List.set_cons_zero]
              refine wpAnyH_take (i := 7) (v := .agg v.cells.toArray) rfl (by kernel_rfl) (by kernel_rfl) (by kernel_rfl) (fun _ _ _ h => h) (Or.inl ⟨by rfl, fun W _ => by go_simp; try with_reducible rfl⟩) hS ?_
              simp only [Act.put, List.getElem_toArray, List.getElem_cons_zero, List.getElem_cons_succ, List.setIfInBounds_toArray, List.set_cons_succ, List.set_cons_zero]
              refine wpAnyH_take (i := 8) (v := .int .i64 0) rfl (by kernel_rfl) (by kernel_rfl) (by kernel_rfl) (fun _ _ _ h => h) (Or.inl ⟨by rfl, fun W _ => by go_simp; try with_reducible rfl⟩) hS ?_
              simp only [Act.put, List.getElem_toArray, List.getElem_cons_zero, List.getElem_cons_succ, List.setIfInBounds_toArray, List.set_cons_succ, List.set_cons_zero]
              have GQ := Lib.hid (show wr.heap.size ≤ wr.heap.size from Nat.le_refl _)
              refine wpAnyH_ready (rs := [10]) (by kernel_rfl) (by simp) ?_
              refine AllReadyH.cons rfl (fun Kq hK => ?_) AllReadyH.nil
              have GX := Lib.hid (show g8 ≠ wr.heap.size ∧ x1.heap.size ≠ wr.heap.size ∧ w.heap.size ≤ wr.heap.size from by
                have h1 := (E0.out.at (x := (g8, 27, u.cells.toArray)) (by simp)).lt
                have h2 := (E0.out.at (x := (x1.heap.size, 27, (ofT l h32).cells.toArray)) (by simp)).lt
                have h3 := E0.out.below.size
                have h4 := GQ.out
                simp at h1 h2 h3 h4
                omega)
              refine tyTr.step_store rfl (.tmp 10) (.tmp 51) rfl rfl (wr.heap.size) v rfl rfl 27 Z (E3.out.at (x := (wr.heap.size, 27, Z)) (by simp)) HS.out ?_
              intro w7 o7 b7
              have E4 := Lib.hid (show Holds w ((wr.heap.size, 27, v.cells.toArray) :: (g8, 27, u.cells.toArray) :: (x1.heap.size, 27, (ofT l h32).cells.toArray) :: []) w7 from Holds.turn E3.out o7 b7 GX.out.2.2 (by intro y hy; simp at hy; rcases hy with rfl | rfl; exact GX.out.1; exact GX.out.2.1))
              have X4 := Lib.hid (X3.out.below (o7.below (B := w.heap.size) (by have := GX.out.2.2; simpa using this)) HG.out)
              refine hK.out _ _ ⟨RowC.of_blk (E4.out.at (x := (g8, 27, u.cells.toArray)) (by simp)), X4.out⟩ (fun hS => ?_)
              clear hK Kq o7 b7
              refine wpAnyH_ready (rs := [11]) (by kernel_rfl) (by simp) ?_
              refine AllReadyH.cons rfl (fun Kq hK => ?_) AllReadyH.nil
              go_simp
              refine hK.out _ _ hS (fun _ => ?_)
              clear hK Kq hS
              refine wpAnyH_done (by kernel_rfl) ?_ _
              have KV := E4.out.at (x := (wr.heap.size, 27, v.cells.toArray)) (by simp)
              have cV : w7.cell? ⟨wr.heap.size, 0, none⟩ = some (.int .u32 ((i : Int) + 1)) := by
                have := TrV.c0 (t := v) (RowC.of_blk KV)
                rw [HVC.out] at this
                exact this
              clear KV
              go_wp2_with (first
                | ((with_reducible refine at_load 10 ?_); refine tyTr.wpList_load rfl (.tmp 10) rfl (wr.heap.size) 0 rfl v (RowC.of_blk (E4.out.at (x := (wr.heap.size, 27, v.cells.toArray)) (by simp))) ?_)
                | ((with_reducible refine at_store 8 63 ?_); refine tyTr.wpList_store rfl (.tmp 8) (.tmp 63) rfl rfl g8 v rfl rfl 27 _ (E4.out.at (x := (g8, 27, u.cells.toArray)) (by simp)) (by rw [tyTr.arr]) ?_; intro w8 o8 b8
                   have E5 := Lib.hid (show Holds w ((g8, 27, v.cells.toArray) :: (x1.heap.size, 27, (ofT l h32).cells.toArray) :: []) w8 from Holds.turn ⟨E4.out.below, fun y hy => E4.out.blks y (List.mem_cons_of_mem _ hy)⟩ o8 b8 LG.out.1 (by intro y hy; simp at hy; subst hy; have := LG.out.2; simp; omega))
                   clear o8 b8))
              go_roundw
              case rel => exact ⟨i + 1, by omega, h4, by go_num, by rw [HV.out]; exact E5⟩
              case measure => simp [intOf]; omega
          · obtain rfl : i = l.length := by omega
            have E6 := Lib.hid (show Holds w ((g8, 27, (ofT l h32).cells.toArray) :: (x1.heap.size, 27, (ofT l h32).cells.toArray) :: []) wr from by
              have e : ofT (l.take l.length) hi32 = ofT l h32 := TrV.ext' (by rw [ofT_V, ofT_V, List.take_length])
              rw [← e]
              have := AS.out
              rwa [e] at this ⊢)
            clear AS
            have h6W := Lib.hid (fun (W : World) (hC : From wr W) => show RowC W (x1.heap.size) 0 (ofT l h32).cells from RowC.of_blk ((E6.out.call hC.below).at (x := (x1.heap.size, 27, (ofT l h32).cells.toArray)) (by simp)))
            have h8W := Lib.hid (fun (W : World) (hC : From wr W) => show RowC W g8 0 (ofT l h32).cells from RowC.of_blk ((E6.out.call hC.below).at (x := (g8, 27, (ofT l h32).cells.toArray)) (by simp)))
            have cW := Lib.hid (fun (W : World) (hC : From wr W) => show W.cell? ⟨x1.heap.size, 0, none⟩ = some (.int .u32 l.length) from TrV.c0 (t := ofT l h32) (h6W.out W hC))
            have OW := Lib.hid (fun (W : World) (hC : From wr W) => HO A c l (by have := H60.out; omega) W ((HL.out.below (E6.out.call hC.below).below).more (E6.out.call hC.below).below.size) (RR.out _ (E6.out.call hC.below).below))
            obtain ⟨y, hy⟩ : ∃ y, ofT l h32 = y := ⟨_, rfl⟩
            have hcl : IntKind.i64.wrap (l.length : Int) = (l.length : Int) := by have := H60.out; rw [IntKind.wrap_i64]; omega
            rw [hy] at h6W h8W OW
            clear hy
            go_wp2_with fail
            refine wp_region_from (by kernel_rfl) (by kernel_rfl) ?_
            repeat (first
              | go_big_quiet_skip
              | ((with_reducible refine at_qload 6 ?_); refine tyTr.wpQuiet_load (by rfl) (.tmp 6) rfl (x1.heap.size) 0 rfl y h6W.out ?_; simp only [Act.put, List.setIfInBounds_toArray, List.set_cons_succ, List.set_cons_zero])
              | ((with_reducible refine at_qload 8 ?_); refine tyTr.wpQuiet_load (by rfl) (.tmp 8) rfl g8 0 rfl y h8W.out ?_; simp only [Act.put, List.setIfInBounds_toArray, List.set_cons_succ, List.set_cons_zero])
              | ((with_reducible refine at_qload 78 ?_); refine wpQuiet_load_one (by rfl) 22 (.tmp 78) rfl ⟨x1.heap.size, 0, none⟩ rfl (.int .u32 l.length) Tryd.isAgg22 cW.out ?_; simp only [Act.put, List.setIfInBounds_toArray, List.set_cons_succ, List.set_cons_zero])
              | ((with_reducible refine at_qeql 67 68 ?_); refine wpQuiet_eql_row (by rfl) 27 27 (.tmp 67) (.tmp 68) rfl y.cells.toArray y.cells.toArray rfl rfl (by kernel_rfl) true (eqTr_run y) ?_; simp only [Act.put, List.setIfInBounds_toArray, List.set_cons_succ, List.set_cons_zero])
              | ((with_reducible refine at_qeql 72 74 ?_); refine wpQuiet_eql_row (by rfl) 27 27 (.tmp 72) (.tmp 74) rfl y.cells.toArray y.cells.toArray rfl rfl (by kernel_rfl) true (eqTr_run y) ?_; simp only [Act.put, List.setIfInBounds_toArray, List.set_cons_succ, List.set_cons_zero])
              | (go_big_quiet_want; go_big_quiet_op; refine ⟨_, fun _ _ => by with_reducible rfl, ?_⟩; go_big_quiet_on)
              | go_big_quiet_step ((intro hC; first
                  | (go_at_call 19; with_reducible exact (OW.out _ hC).mono fun _ _ h => ⟨h.1, hC.call h.2⟩)
                  | fail)))
            refine wpQuiet_nil ?_
            intro wz hC
            have HZ9 := Lib.hid (E6.out.call hC.below)
            clear hC
            go_wp2_with fail
            go_ret
            exact ⟨rfl, HZ9.out.below⟩
    · go_simp
      have H2 := Lib.hid (show Holds w _ ((w1.alloc (.cells Z 27)).drew) from H1.out.box 27 Z)
      refine hK.out _ ((w1.alloc (.cells Z 27)).drew) trivial (fun hS => ?_)
      clear hK Kq
      have H4g := Lib.hid (show w.heap.size ≤ w1.heap.size from H1.out.below.size)
      refine wpAnyH_ready (rs := [3]) (by kernel_rfl) (by simp) ?_
      refine AllReadyH.cons rfl (fun Kq hK => ?_) AllReadyH.nil
      go_simp
      with_reducible refine (O1.out _ H2.out.below).mono ?_
      rintro e x1 ⟨rfl, bq⟩
      have H3 := Lib.hid (H2.out.call bq)
      refine hK.out _ _ trivial (fun hS => ?_)
      clear hK Kq bq
      refine wpAnyH_ready (rs := [7]) (by kernel_rfl) (by simp) ?_
      refine AllReadyH.cons rfl (fun Kq hK => ?_) AllReadyH.nil
      go_simp
      with_reducible refine (L1.out _ H3.out.below).mono ?_
      rintro e x2 ⟨rfl, bq⟩
      have H4 := Lib.hid (H3.out.call bq)
      refine hK.out _ _ trivial (fun hS => ?_)
      clear hK Kq bq
      refine wpAnyH_take (i := 8) (v := .tuple #[.agg (ofT l h32).cells.toArray, .int .i64 0]) rfl (by kernel_rfl) (by kernel_rfl) (by kernel_rfl) (fun _ _ _ h => h) (Or.inl ⟨by rfl, fun W _ => by go_simp; try with_reducible rfl⟩) hS ?_
      simp only [Act.put, List.getElem_toArray, List.getElem_cons_zero, List.getElem_cons_succ, List.setIfInBounds_toArray, List.set_cons_succ, List.set_cons_zero]
      refine wpAnyH_take (i := 9) (v := .agg (ofT l h32).cells.toArray) rfl (by kernel_rfl) (by kernel_rfl) (by kernel_rfl) (fun _ _ _ h => h) (Or.inl ⟨by rfl, fun W _ => by go_simp; try with_reducible rfl⟩) hS ?_
      simp only [Act.put, List.getElem_toArray, List.getElem_cons_zero, List.getElem_cons_succ, List.setIfInBounds_toArray, List.set_cons_succ, List.set_cons_zero]
      refine wpAnyH_take (i := 10) (v := .int .i64 0) rfl (by kernel_rfl) (by kernel_rfl) (by kernel_rfl) (fun _ _ _ h => h) (Or.inl ⟨by rfl, fun W _ => by go_simp; try with_reducible rfl⟩) hS ?_
      simp only [Act.put, List.getElem_toArray, List.getElem_cons_zero, List.getElem_cons_succ, List.setIfInBounds_toArray, List.set_cons_succ, List.set_cons_zero]
      refine wpAnyH_ready (rs := [12]) (by kernel_rfl) (by simp) ?_
      refine AllReadyH.cons rfl (fun Kq hK => ?_) AllReadyH.nil
      refine tyTr.step_store rfl (.tmp 6) (.tmp 35) rfl rfl (w1.heap.size) (ofT l h32) rfl rfl 27 Z (H4.out.at (x := (w1.heap.size, 27, Z)) (by simp)) HS.out ?_
      intro w3 o3 b3
      have H6 := Lib.hid (H4.out.turn o3 b3 (H4g.out) (by simp))
      refine hK.out _ _ trivial (fun hS => ?_)
      clear hK Kq o3 b3
      refine wpAnyH_ready (rs := [13]) (by kernel_rfl) (by simp) ?_
      refine AllReadyH.cons rfl (fun Kq hK => ?_) AllReadyH.nil
      go_simp
      refine hK.out _ _ trivial (fun _ => ?_)
      clear hK Kq hS
      refine wpAnyH_done (by kernel_rfl) ?_ _
      go_wp2_with fail
      refine (HO none 0 [] (by simp) w3 (RowIn.nil (by omega)) (RR.out _ H6.out.below)).mono ?_
      rintro e w4 ⟨rfl, b4⟩
      have H7 := Lib.hid (H6.out.call b4)
      clear b4
      go_wp2_with ((with_reducible refine at_store 8 37 ?_); refine tyTr.wpList_store rfl (.tmp 8) (.tmp 37) rfl rfl w4.heap.size (ofT [] (by simp)) rfl rfl 27 Z (Blk.new w4 27 Z) (by rw [HS.out]) ?_; intro w5 o5 b5
                   have H8 := Lib.hid (H7.out.put o5 b5)
                   clear o5 b5)
      have LG := Lib.hid (show w.heap.size ≤ w4.heap.size ∧ w1.heap.size < w4.heap.size from ⟨H7.out.below.size, (H7.out.at (x := (w1.heap.size, 27, (ofT l h32).cells.toArray)) (by simp)).lt⟩)
      obtain ⟨g8, hg8⟩ : ∃ g, w4.heap.size = g := ⟨_, rfl⟩
      rw [hg8] at H8 LG ⊢
      clear hg8
      go_loopw [9] (fun i wr => ∃ (n : Nat) (hn : n ≤ l.length) (h3 : (l.take n).length < 4294967296), i = .int .i64 n ∧ Hid (Holds w ((g8, 27, (ofT (l.take n) h3).cells.toArray) :: (w1.heap.size, 27, (ofT l h32).cells.toArray) :: []) wr)) (fun i _ => l.length - (intOf i).toNat)
      case atStart => exact ⟨0, by omega, by simp, rfl, H8⟩
      case round =>
        clear H8
        obtain ⟨i, hil, hi32, rfl, AS⟩ := hrel
        by_cases hlt : i < l.length
        · obtain ⟨g, o, hA, hg, hc⟩ := (HL.out.below AS.out.below).at encK_len hlt
          obtain ⟨x, hx⟩ : ∃ x, l[i] = x := ⟨_, rfl⟩
          rw [hx] at hc
          have h4 : (l.take (i + 1)).length < 4294967296 := by rw [List.length_take]; omega
          have ha : appT (ofT (l.take i) hi32) x = (ofT (l.take (i + 1)) h4, 0) := by
            have e : l.take (i + 1) = l.take i ++ [x] := by rw [List.take_succ_eq_append_getElem hlt, hx]
            have h5 : (l.take i ++ [x]).length < 4294967296 := by rw [← e]; exact h4
            rw [appT_of (l.take i) x (by rw [List.length_take]; omega) hi32 h5]
            congr 1
            exact TrV.ext' (by rw [ofT_V, ofT_V, e])
          have HAX := Lib.hid ha
          have HCI := Lib.hid (show (l.take (i + 1)).length = i + 1 by rw [List.length_take]; omega)
          obtain ⟨u, hu⟩ : ∃ u, ofT (l.take i) hi32 = u := ⟨_, rfl⟩
          obtain ⟨v, hv⟩ : ∃ v, ofT (l.take (i + 1)) h4 = v := ⟨_, rfl⟩
          have HVC := Lib.hid (show v.c = i + 1 by rw [← hv]; exact HCI.out)
          have HV := Lib.hid hv
          rw [hu, hv] at HAX
          rw [hu] at AS
          subst hA
          have HC := Lib.hid hc
          have HG := Lib.hid hg
          have hcu : IntKind.u32.wrap (i : Int) = (i : Int) := by have := H60.out; rw [IntKind.wrap_u32']; omega
          have hcu1 : IntKind.u32.wrap ((i : Int) + 1) = (i : Int) + 1 := by have := H60.out; rw [IntKind.wrap_u32']; omega
          clear hx hc hg ha hu hv
          go_wp2_with fail
          have E0 := Lib.hid (show Holds w ((g8, 27, u.cells.toArray) :: (w1.heap.size, 27, (ofT l h32).cells.toArray) :: []) wr.drew from ⟨AS.out.below.drew, AS.out.blks⟩)
          have X0 := Lib.hid (show RowC wr.drew g (o + i * 32) (encK x) from HC.out)
          refine wp_region_held_drew (S := fun W => RowC W g8 0 u.cells ∧ RowC W g (o + i * 32) (encK x)) (by kernel_rfl) ⟨RowC.of_blk (E0.out.at (x := (g8, 27, u.cells.toArray)) (by simp)), X0.out⟩ ?_
          clear AS HC
          intro hS
          refine wpAnyH_take (i := 0) (v := .agg u.cells.toArray) rfl (by kernel_rfl) (by kernel_rfl) (by kernel_rfl) (fun _ _ _ h => h) (tyTr.yieldsIf_load (by rfl) (.tmp 8) rfl g8 0 rfl u (fun _ h => h.1)) hS ?_
          simp only [Act.put, List.getElem_toArray, List.getElem_cons_zero, List.setIfInBounds_toArray, List.set_cons_succ, List.set_cons_zero]
          refine wpAnyH_take (i := 1) (v := .slice (some ⟨g, o, none⟩) l.length c) rfl (by kernel_rfl) (by kernel_rfl) (by kernel_rfl) (fun _ _ _ h => h) (Or.inl ⟨by rfl, fun W _ => by go_simp; try with_reducible rfl⟩) hS ?_
          simp only [Act.put, List.getElem_toArray, List.getElem_cons_zero, List.getElem_cons_succ, List.setIfInBounds_toArray, List.set_cons_succ, List.set_cons_zero]
          refine wpAnyH_take (i := 2) (v := .int .i64 i) rfl (by kernel_rfl) (by kernel_rfl) (by kernel_rfl) (fun _ _ _ h => h) (Or.inl ⟨by rfl, fun W _ => by go_simp; try with_reducible rfl⟩) hS ?_
          simp only [Act.put, List.getElem_toArray, List.getElem_cons_zero, List.getElem_cons_succ, List.setIfInBounds_toArray, List.set_cons_succ, List.set_cons_zero]
          refine wpAnyH_take (i := 3) (v := .pointer (some ⟨g, o + i * 32, none⟩)) rfl (by kernel_rfl) (by kernel_rfl) (by kernel_rfl) (fun _ _ _ h => h) (Or.inl ⟨by rfl, fun W _ => by go_simp; try with_reducible rfl⟩) hS ?_
          simp only [Act.put, List.getElem_toArray, List.getElem_cons_zero, List.getElem_cons_succ, List.setIfInBounds_toArray, List.set_cons_succ, List.set_cons_zero]
          refine wpAnyH_take (i := 4) (v := .agg (encK x).toArray) rfl (by kernel_rfl) (by kernel_rfl) (by kernel_rfl) (fun _ _ _ h => h) (tyKc.yieldsIf_load (by rfl) (.tmp 48) rfl g (o + i * 32) rfl x (fun _ h => h.2)) hS ?_
          simp only [Act.put, List.getElem_toArray, List.getElem_cons_zero, List.getElem_cons_succ, List.setIfInBounds_toArray, List.set_cons_succ, List.set_cons_zero]
          refine wpAnyH_ready (rs := [5, 9]) (by kernel_rfl) (by simp) ?_
          refine AllReadyH.cons rfl (fun Kq hK => ?_) (AllReadyH.cons rfl (fun Kq hK => ?_) AllReadyH.nil)
          · go_simp
            with_reducible refine (HP u x _ (RR.out _ E0.out.below)).mono ?_
            rintro e z1 ⟨rfl, bq⟩
            rw [HAX.out]
            have E1 := Lib.hid (E0.out.call bq)
            have X1 := Lib.hid (X0.out.below bq (Nat.lt_of_lt_of_le HG.out E0.out.below.size))
            refine hK.out _ _ ⟨RowC.of_blk (E1.out.at (x := (g8, 27, u.cells.toArray)) (by simp)), X1.out⟩ (fun hS => ?_)
            have GQ := Lib.hid (show wr.heap.size ≤ z1.heap.size from bq.size)
            clear hK Kq bq
            refine wpAnyH_take (i := 6) (v := .tuple #[.agg v.cells.toArray, .int .i64 0]) rfl (by kernel_rfl) (by kernel_rfl) (by kernel_rfl) (fun _ _ _ h => h) (Or.inl ⟨by rfl, fun W _ => by go_simp; try with_reducible rfl⟩) hS ?_
            simp only [Act.put, List.getElem_toArray, List.getElem_cons_zero, List.getElem_cons_succ, List.setIfInBounds_toArray, List.set_cons_succ, List.set_cons_zero]
            refine wpAnyH_take (i := 7) (v := .agg v.cells.toArray) rfl (by kernel_rfl) (by kernel_rfl) (by kernel_rfl) (fun _ _ _ h => h) (Or.inl ⟨by rfl, fun W _ => by go_simp; try with_reducible rfl⟩) hS ?_
            simp only [Act.put, List.getElem_toArray, List.getElem_cons_zero, List.getElem_cons_succ, List.setIfInBounds_toArray, List.set_cons_succ, List.set_cons_zero]
            refine wpAnyH_take (i := 8) (v := .int .i64 0) rfl (by kernel_rfl) (by kernel_rfl) (by kernel_rfl) (fun _ _ _ h => h) (Or.inl ⟨by rfl, fun W _ => by go_simp; try with_reducible rfl⟩) hS ?_
            simp only [Act.put, List.getElem_toArray, List.getElem_cons_zero, List.getElem_cons_succ, List.setIfInBounds_toArray, List.set_cons_succ, List.set_cons_zero]
            refine wpAnyH_ready (rs := [9]) (by kernel_rfl) (by simp) ?_
            refine AllReadyH.cons rfl (fun Kq hK => ?_) AllReadyH.nil
            go_simp
            have E2 := Lib.hid (show Holds w _ ((z1.alloc (.cells Z 27))) from E1.out.box 27 Z)
            have X2 := Lib.hid (show RowC ((z1.alloc (.cells Z 27))) g (o + i * 32) (encK x) from X1.out.below (B := z1.heap.size) ((Below.refl _ _).alloc (Nat.le_refl _) (.cells Z 27)) (Nat.lt_of_lt_of_le HG.out E1.out.below.size))
            refine hK.out _ ((z1.alloc (.cells Z 27))) ⟨RowC.of_blk (E2.out.at (x := (g8, 27, u.cells.toArray)) (by simp)), X2.out⟩ (fun hS => ?_)
            clear hK Kq
            refine wpAnyH_ready (rs := [10]) (by kernel_rfl) (by simp) ?_
            refine AllReadyH.cons rfl (fun Kq hK => ?_) AllReadyH.nil
            have GX := Lib.hid (show g8 ≠ z1.heap.size ∧ w1.heap.size ≠ z1.heap.size ∧ w.heap.size ≤ z1.heap.size from by
              have h1 := (E0.out.at (x := (g8, 27, u.cells.toArray)) (by simp)).lt
              have h2 := (E0.out.at (x := (w1.heap.size, 27, (ofT l h32).cells.toArray)) (by simp)).lt
              have h3 := E0.out.below.size
              have h4 := GQ.out
              simp at h1 h2 h3 h4
              omega)
            refine tyTr.step_store rfl (.tmp 10) (.tmp 51) rfl rfl (z1.heap.size) v rfl rfl 27 Z (E2.out.at (x := (z1.heap.size, 27, Z)) (by simp)) HS.out ?_
            intro w7 o7 b7
            have E4 := Lib.hid (show Holds w ((z1.heap.size, 27, v.cells.toArray) :: (g8, 27, u.cells.toArray) :: (w1.heap.size, 27, (ofT l h32).cells.toArray) :: []) w7 from Holds.turn E2.out o7 b7 GX.out.2.2 (by intro y hy; simp at hy; rcases hy with rfl | rfl; exact GX.out.1; exact GX.out.2.1))
            have X4 := Lib.hid (X2.out.below (o7.below (B := w.heap.size) (by have := GX.out.2.2; simpa using this)) HG.out)
            refine hK.out _ _ ⟨RowC.of_blk (E4.out.at (x := (g8, 27, u.cells.toArray)) (by simp)), X4.out⟩ (fun hS => ?_)
            clear hK Kq o7 b7
            refine wpAnyH_ready (rs := [11]) (by kernel_rfl) (by simp) ?_
            refine AllReadyH.cons rfl (fun Kq hK => ?_) AllReadyH.nil
            go_simp
            refine hK.out _ _ hS (fun _ => ?_)
            clear hK Kq hS
            refine wpAnyH_done (by kernel_rfl) ?_ _
            have KV := E4.out.at (x := (z1.heap.size, 27, v.cells.toArray)) (by simp)
            have cV : w7.cell? ⟨z1.heap.size, 0, none⟩ = some (.int .u32 ((i : Int) + 1)) := by
              have := TrV.c0 (t := v) (RowC.of_blk KV)
              rw [HVC.out] at this
              exact this
            clear KV
            go_wp2_with (first
              | ((with_reducible refine at_load 10 ?_); refine tyTr.wpList_load rfl (.tmp 10) rfl (z1.heap.size) 0 rfl v (RowC.of_blk (E4.out.at (x := (z1.heap.size, 27, v.cells.toArray)) (by simp))) ?_)
              | ((with_reducible refine at_store 8 63 ?_); refine tyTr.wpList_store rfl (.tmp 8) (.tmp 63) rfl rfl g8 v rfl rfl 27 _ (E4.out.at (x := (g8, 27, u.cells.toArray)) (by simp)) (by rw [tyTr.arr]) ?_; intro w8 o8 b8
                 have E5 := Lib.hid (show Holds w ((g8, 27, v.cells.toArray) :: (w1.heap.size, 27, (ofT l h32).cells.toArray) :: []) w8 from Holds.turn ⟨E4.out.below, fun y hy => E4.out.blks y (List.mem_cons_of_mem _ hy)⟩ o8 b8 LG.out.1 (by intro y hy; simp at hy; subst hy; have := LG.out.2; simp; omega))
                 clear o8 b8))
            go_roundw
            case rel => exact ⟨i + 1, by omega, h4, by go_num, by rw [HV.out]; exact E5⟩
            case measure => simp [intOf]; omega
          · go_simp
            have E2 := Lib.hid (show Holds w _ ((wr.alloc (.cells Z 27)).drew) from E0.out.box 27 Z)
            have X2 := Lib.hid (show RowC ((wr.alloc (.cells Z 27)).drew) g (o + i * 32) (encK x) from X0.out.below (B := wr.drew.heap.size) ((Below.refl _ _).alloc (Nat.le_refl _) (.cells Z 27)) (Nat.lt_of_lt_of_le HG.out E0.out.below.size))
            refine hK.out _ ((wr.alloc (.cells Z 27)).drew) ⟨RowC.of_blk (E2.out.at (x := (g8, 27, u.cells.toArray)) (by simp)), X2.out⟩ (fun hS => ?_)
            clear hK Kq
            refine wpAnyH_ready (rs := [5]) (by kernel_rfl) (by simp) ?_
            refine AllReadyH.cons rfl (fun Kq hK => ?_) AllReadyH.nil
            go_simp
            with_reducible refine (HP u x _ (RR.out _ E2.out.below)).mono ?_
            rintro e z1 ⟨rfl, bq⟩
            rw [HAX.out]
            have E3 := Lib.hid (E2.out.call bq)
            have X3 := Lib.hid (X2.out.below bq (Nat.lt_of_lt_of_le HG.out E2.out.below.size))
            refine hK.out _ _ ⟨RowC.of_blk (E3.out.at (x := (g8, 27, u.cells.toArray)) (by simp)), X3.out⟩ (fun hS => ?_)
            clear hK Kq bq
            refine wpAnyH_take (i := 6) (v := .tuple #[.agg v.cells.toArray, .int .i64 0]) rfl (by kernel_rfl) (by kernel_rfl) (by kernel_rfl) (fun _ _ _ h => h) (Or.inl ⟨by rfl, fun W _ => by go_simp; try with_reducible rfl⟩) hS ?_
            simp only [Act.put, List.getElem_toArray, List.getElem_cons_zero, List.getElem_cons_succ, List.setIfInBounds_toArray, List.set_cons_succ, List.set_cons_zero]
            refine wpAnyH_take (i := 7) (v := .agg v.cells.toArray) rfl (by kernel_rfl) (by kernel_rfl) (by kernel_rfl) (fun _ _ _ h => h) (Or.inl ⟨by rfl, fun W _ => by go_simp; try with_reducible rfl⟩) hS ?_
            simp only [Act.put, List.getElem_toArray, List.getElem_cons_zero, List.getElem_cons_succ, List.setIfInBounds_toArray, List.set_cons_succ, List.set_cons_zero]
            refine wpAnyH_take (i := 8) (v := .int .i64 0) rfl (by kernel_rfl) (by kernel_rfl) (by kernel_rfl) (fun _ _ _ h => h) (Or.inl ⟨by rfl, fun W _ => by go_simp; try with_reducible rfl⟩) hS ?_
            simp only [Act.put, List.getElem_toArray, List.getElem_cons_zero, List.getElem_cons_succ, List.setIfInBounds_toArray, List.set_cons_succ, List.set_cons_zero]
            have GQ := Lib.hid (show wr.heap.size ≤ wr.heap.size from Nat.le_refl _)
            refine wpAnyH_ready (rs := [10]) (by kernel_rfl) (by simp) ?_
            refine AllReadyH.cons rfl (fun Kq hK => ?_) AllReadyH.nil
            have GX := Lib.hid (show g8 ≠ wr.heap.size ∧ w1.heap.size ≠ wr.heap.size ∧ w.heap.size ≤ wr.heap.size from by
              have h1 := (E0.out.at (x := (g8, 27, u.cells.toArray)) (by simp)).lt
              have h2 := (E0.out.at (x := (w1.heap.size, 27, (ofT l h32).cells.toArray)) (by simp)).lt
              have h3 := E0.out.below.size
              have h4 := GQ.out
              simp at h1 h2 h3 h4
              omega)
            refine tyTr.step_store rfl (.tmp 10) (.tmp 51) rfl rfl (wr.heap.size) v rfl rfl 27 Z (E3.out.at (x := (wr.heap.size, 27, Z)) (by simp)) HS.out ?_
            intro w7 o7 b7
            have E4 := Lib.hid (show Holds w ((wr.heap.size, 27, v.cells.toArray) :: (g8, 27, u.cells.toArray) :: (w1.heap.size, 27, (ofT l h32).cells.toArray) :: []) w7 from Holds.turn E3.out o7 b7 GX.out.2.2 (by intro y hy; simp at hy; rcases hy with rfl | rfl; exact GX.out.1; exact GX.out.2.1))
            have X4 := Lib.hid (X3.out.below (o7.below (B := w.heap.size) (by have := GX.out.2.2; simpa using this)) HG.out)
            refine hK.out _ _ ⟨RowC.of_blk (E4.out.at (x := (g8, 27, u.cells.toArray)) (by simp)), X4.out⟩ (fun hS => ?_)
            clear hK Kq o7 b7
            refine wpAnyH_ready (rs := [11]) (by kernel_rfl) (by simp) ?_
            refine AllReadyH.cons rfl (fun Kq hK => ?_) AllReadyH.nil
            go_simp
            refine hK.out _ _ hS (fun _ => ?_)
            clear hK Kq hS
            refine wpAnyH_done (by kernel_rfl) ?_ _
            have KV := E4.out.at (x := (wr.heap.size, 27, v.cells.toArray)) (by simp)
            have cV : w7.cell? ⟨wr.heap.size, 0, none⟩ = some (.int .u32 ((i : Int) + 1)) := by
              have := TrV.c0 (t := v) (RowC.of_blk KV)
              rw [HVC.out] at this
              exact this
            clear KV
            go_wp2_with (first
              | ((with_reducible refine at_load 10 ?_); refine tyTr.wpList_load rfl (.tmp 10) rfl (wr.heap.size) 0 rfl v (RowC.of_blk (E4.out.at (x := (wr.heap.size, 27, v.cells.toArray)) (by simp))) ?_)
              | ((with_reducible refine at_store 8 63 ?_); refine tyTr.wpList_store rfl (.tmp 8) (.tmp 63) rfl rfl g8 v rfl rfl 27 _ (E4.out.at (x := (g8, 27, u.cells.toArray)) (by simp)) (by rw [tyTr.arr]) ?_; intro w8 o8 b8
                 have E5 := Lib.hid (show Holds w ((g8, 27, v.cells.toArray) :: (w1.heap.size, 27, (ofT l h32).cells.toArray) :: []) w8 from Holds.turn ⟨E4.out.below, fun y hy => E4.out.blks y (List.mem_cons_of_mem _ hy)⟩ o8 b8 LG.out.1 (by intro y hy; simp at hy; subst hy; have := LG.out.2; simp; omega))
                 clear o8 b8))
            go_roundw
            case rel => exact ⟨i + 1, by omega, h4, by go_num, by rw [HV.out]; exact E5⟩
            case measure => simp [intOf]; omega
        · obtain rfl : i = l.length := by omega
          have E6 := Lib.hid (show Holds w ((g8, 27, (ofT l h32).cells.toArray) :: (w1.heap.size, 27, (ofT l h32).cells.toArray) :: []) wr from by
            have e : ofT (l.take l.length) hi32 = ofT l h32 := TrV.ext' (by rw [ofT_V, ofT_V, List.take_length])
            rw [← e]
            have := AS.out
            rwa [e] at this ⊢)
          clear AS
          have h6W := Lib.hid (fun (W : World) (hC : From wr W) => show RowC W (w1.heap.size) 0 (ofT l h32).cells from RowC.of_blk ((E6.out.call hC.below).at (x := (w1.heap.size, 27, (ofT l h32).cells.toArray)) (by simp)))
          have h8W := Lib.hid (fun (W : World) (hC : From wr W) => show RowC W g8 0 (ofT l h32).cells from RowC.of_blk ((E6.out.call hC.below).at (x := (g8, 27, (ofT l h32).cells.toArray)) (by simp)))
          have cW := Lib.hid (fun (W : World) (hC : From wr W) => show W.cell? ⟨w1.heap.size, 0, none⟩ = some (.int .u32 l.length) from TrV.c0 (t := ofT l h32) (h6W.out W hC))
          have OW := Lib.hid (fun (W : World) (hC : From wr W) => HO A c l (by have := H60.out; omega) W ((HL.out.below (E6.out.call hC.below).below).more (E6.out.call hC.below).below.size) (RR.out _ (E6.out.call hC.below).below))
          obtain ⟨y, hy⟩ : ∃ y, ofT l h32 = y := ⟨_, rfl⟩
          have hcl : IntKind.i64.wrap (l.length : Int) = (l.length : Int) := by have := H60.out; rw [IntKind.wrap_i64]; omega
          rw [hy] at h6W h8W OW
          clear hy
          go_wp2_with fail
          refine wp_region_from (by kernel_rfl) (by kernel_rfl) ?_
          repeat (first
            | go_big_quiet_skip
            | ((with_reducible refine at_qload 6 ?_); refine tyTr.wpQuiet_load (by rfl) (.tmp 6) rfl (w1.heap.size) 0 rfl y h6W.out ?_; simp only [Act.put, List.setIfInBounds_toArray, List.set_cons_succ, List.set_cons_zero])
            | ((with_reducible refine at_qload 8 ?_); refine tyTr.wpQuiet_load (by rfl) (.tmp 8) rfl g8 0 rfl y h8W.out ?_; simp only [Act.put, List.setIfInBounds_toArray, List.set_cons_succ, List.set_cons_zero])
            | ((with_reducible refine at_qload 78 ?_); refine wpQuiet_load_one (by rfl) 22 (.tmp 78) rfl ⟨w1.heap.size, 0, none⟩ rfl (.int .u32 l.length) Tryd.isAgg22 cW.out ?_; simp only [Act.put, List.setIfInBounds_toArray, List.set_cons_succ, List.set_cons_zero])
            | ((with_reducible refine at_qeql 67 68 ?_); refine wpQuiet_eql_row (by rfl) 27 27 (.tmp 67) (.tmp 68) rfl y.cells.toArray y.cells.toArray rfl rfl (by kernel_rfl) true (eqTr_run y) ?_; simp only [Act.put, List.setIfInBounds_toArray, List.set_cons_succ, List.set_cons_zero])
            | ((with_reducible refine at_qeql 72 74 ?_); refine wpQuiet_eql_row (by rfl) 27 27 (.tmp 72) (.tmp 74) rfl y.cells.toArray y.cells.toArray rfl rfl (by kernel_rfl) true (eqTr_run y) ?_; simp only [Act.put, List.setIfInBounds_toArray, List.set_cons_succ, List.set_cons_zero])
            | (go_big_quiet_want; go_big_quiet_op; refine ⟨_, fun _ _ => by with_reducible rfl, ?_⟩; go_big_quiet_on)
            | go_big_quiet_step ((intro hC; first
                | (go_at_call 19; with_reducible exact (OW.out _ hC).mono fun _ _ h => ⟨h.1, hC.call h.2⟩)
                | fail)))
          refine wpQuiet_nil ?_
          intro wz hC
          have HZ9 := Lib.hid (E6.out.call hC.below)
          clear hC
          go_wp2_with fail
          go_ret
          exact ⟨rfl, HZ9.out.below⟩
end Go.Proofs.YtfmidmhbnpincaaDoor
