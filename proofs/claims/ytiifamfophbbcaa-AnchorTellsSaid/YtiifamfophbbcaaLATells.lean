/- AnchorTells: the statement's walk. Written by genLAt.py. -/
import Derived.Test.YtiifamfophbbcaaAncU
import Derived.Test.YtiifamfophbbcaaAncS
namespace Go.Proofs.Ytiifamfophbbcaa
open Go.RowKit
theorem afield_ring (A : Option Addr) (n c : Nat) (W : World) : (Instr.field 27 (.agg #[.slice A n c]) 0).run Try.prog W = .ok (.slice A n c) W := by kernel_rfl
set_option maxRecDepth 20000 in
set_option maxHeartbeats 8000000 in
theorem atells_walk (HNW : NewOk) (HPT : PutOk) (HBK : BackOk) (HHS : HasOk) (HLS : LastOk) (A0 : Option Addr) (c0 : Nat) (l : List K32) (k : K32) (w : World) (hl : RowIn encK 32 w w.heap.size A0 c0 l) :
    Calls Try.prog 3 #[.slice A0 l.length c0, .agg (encK k).toArray] w fun e w' => e = .returned (.bool true) ∧ Below w.heap.size w w' := by
  have SH := Lib.hid (fun W => ashown_any HNW HPT HHS W)
  unfold NewOk at HNW
  unfold PutOk at HPT
  unfold BackOk at HBK
  unfold HasOk at HHS
  unfold LastOk at HLS
  have HN := Lib.hid HNW
  have HP := Lib.hid HPT
  have HB := Lib.hid HBK
  have HH := Lib.hid HHS
  have HLA := Lib.hid HLS
  have HL := Lib.hid hl
  have H0 := Lib.hid ((Holds.nil w).box 24 (encK k).toArray)
  clear HNW HPT HBK HHS HLS
  by_cases h100 : 100 < l.length
  · have hd : decide ((100 : Int) < (l.length : Int)) = true := by simp; omega
    clear hl
    go_enter Try.func3, Try.ntmps3
    go_wp2_with fail
    refine (SH.out _).mono ?_
    rintro e w1 ⟨rfl, b1⟩
    have H1 := Lib.hid (H0.out.call b1)
    go_wp2_with fail
    go_ret
    exact ⟨rfl, H1.out.below⟩
  · have hd : decide ((100 : Int) < (l.length : Int)) = false := by simp; omega
    have HN1 := Lib.hid (show l.length ≤ 200 ∧ l.length ≤ 1000 by omega)
    obtain ⟨pl, hpl⟩ : ∃ pl, putR l k = pl := ⟨_, rfl⟩
    obtain ⟨bl, hbl⟩ : ∃ bl, backR l = bl := ⟨_, rfl⟩
    obtain ⟨el, hel⟩ : ∃ el, backE l = el := ⟨_, rfl⟩
    obtain ⟨z, hz⟩ : ∃ z, lastR l = z := ⟨_, rfl⟩
    obtain ⟨t, ht⟩ : ∃ t, decide (0 < l.length) = t := ⟨_, rfl⟩
    obtain ⟨hv, hhv⟩ : ∃ hv, hasR l k = hv := ⟨_, rfl⟩
    have EP := Lib.hid hpl
    have EB := Lib.hid (And.intro hbl hel)
    have EZ := Lib.hid (And.intro hz ht)
    have EH := Lib.hid hhv
    clear hl h100 hpl hbl hel hz ht hhv
    go_enter Try.func3, Try.ntmps3
    go_wp2_with fail
    refine (SH.out _).mono ?_
    rintro e w1 ⟨rfl, b1⟩
    have H1 := Lib.hid (H0.out.call b1)
    clear b1 H0
    go_wp2_with (first
        | ((with_reducible refine at_store 5 26 ?_); refine tyRg.wpList_store rfl (.tmp 5) (.tmp 26) rfl rfl w1.heap.size (A0, l.length, c0) rfl rfl 27 _ (Blk.new w1 27 _) rfl ?_; intro w2 o2 b2
           have H2 := Lib.hid (H1.out.put o2 b2)
           clear o2 b2)
        | ((with_reducible refine at_store 6 28 ?_); refine tyRr.wpList_store rfl (.tmp 6) (.tmp 28) rfl rfl w2.heap.size (A0, l.length, c0) rfl rfl 28 _ (Blk.new w2 28 _) rfl ?_; intro w3 o3 b3
           have H3 := Lib.hid (H2.out.put o3 b3)
           clear o3 b3)
        | ((with_reducible refine at_load 5 ?_); refine tyRg.wpList_load rfl (.tmp 5) rfl (w1.heap.size) 0 rfl ((A0, l.length, c0)) (RowC.of_blk (H3.out.at (x := (w1.heap.size, 27, (encR ((A0, l.length, c0))).toArray)) (by simp))) ?_)
        | ((with_reducible refine at_load 3 ?_); refine tyKc.wpList_load rfl (.tmp 3) rfl (w.heap.size) 0 rfl (k) (RowC.of_blk (H3.out.at (x := (w.heap.size, 24, (encK k).toArray)) (by simp))) ?_))
    refine (HP.out A0 c0 l k _ HN1.out.1 ((HL.out.below H3.out.below).more H3.out.below.size)).mono ?_
    rintro e w4 ⟨A1, c1, rfl, r1, _, b4⟩
    rw [EP.out] at r1 ⊢
    have P4 := Lib.hid r1
    have H4 := Lib.hid (H3.out.call b4)
    clear r1 b4 H3
    go_wp2_with (first
        | ((with_reducible refine at_store 7 31 ?_); refine tyRg.wpList_store rfl (.tmp 7) (.tmp 31) rfl rfl w4.heap.size (A1, pl.length, c1) rfl rfl 27 _ (Blk.new w4 27 _) rfl ?_; intro w5 o5 b5
           have H5 := Lib.hid (H4.out.put o5 b5)
           have BB5 := Lib.hid (show Below w4.heap.size w4 w5 from ((Below.refl _ _).alloc (Nat.le_refl _) _).trans (o5.below (by simp)))
           have P5 := Lib.hid ((P4.out.below BB5.out).more BB5.out.size)
           clear o5 b5 BB5)
        | ((with_reducible refine at_load 6 ?_); refine tyRr.wpList_load rfl (.tmp 6) rfl (w2.heap.size) 0 rfl ((A0, l.length, c0)) (RowC.of_blk (H5.out.at (x := (w2.heap.size, 28, (encR ((A0, l.length, c0))).toArray)) (by simp))) ?_)
        | ((with_reducible refine at_load 3 ?_); refine tyKc.wpList_load rfl (.tmp 3) rfl (w.heap.size) 0 rfl (k) (RowC.of_blk (H5.out.at (x := (w.heap.size, 24, (encK k).toArray)) (by simp))) ?_))
    refine (rPut_r A0 c0 l k _ HN1.out.2 ((HL.out.below H5.out.below).more H5.out.below.size)).mono ?_
    rintro e w6 ⟨A2, c2, rfl, r2, b6⟩
    rw [EP.out] at r2 ⊢
    have Q6 := Lib.hid r2
    have H6 := Lib.hid (H5.out.call b6)
    have P6 := Lib.hid ((P5.out.below b6).more b6.size)
    clear r2 b6 H5
    go_wp2_with (first
        | ((with_reducible refine at_store 8 34 ?_); refine tyRr.wpList_store rfl (.tmp 8) (.tmp 34) rfl rfl w6.heap.size (A2, pl.length, c2) rfl rfl 28 _ (Blk.new w6 28 _) rfl ?_; intro w7 o7 b7
           have H7 := Lib.hid (H6.out.put o7 b7)
           have BB7 := Lib.hid (show Below w6.heap.size w6 w7 from ((Below.refl _ _).alloc (Nat.le_refl _) _).trans (o7.below (by simp)))
           have P7 := Lib.hid ((P6.out.below BB7.out).more BB7.out.size)
           have Q7 := Lib.hid ((Q6.out.below BB7.out).more BB7.out.size)
           clear o7 b7 BB7)
        | ((with_reducible refine at_load 5 ?_); refine tyRg.wpList_load rfl (.tmp 5) rfl (w1.heap.size) 0 rfl ((A0, l.length, c0)) (RowC.of_blk (H7.out.at (x := (w1.heap.size, 27, (encR ((A0, l.length, c0))).toArray)) (by simp))) ?_))
    refine (HB.out A0 c0 l _ HN1.out.1 ((HL.out.below H7.out.below).more H7.out.below.size)).mono ?_
    rintro e w8 ⟨A3, c3, rfl, r3, b8⟩
    rw [EB.out.1] at r3 ⊢
    rw [EB.out.2]
    have X8 := Lib.hid r3
    have H8 := Lib.hid (H7.out.call b8)
    have P8 := Lib.hid ((P7.out.below b8).more b8.size)
    have Q8 := Lib.hid ((Q7.out.below b8).more b8.size)
    clear r3 b8 H7
    go_wp2_with (first
        | ((with_reducible refine at_store 9 38 ?_); refine tyRg.wpList_store rfl (.tmp 9) (.tmp 38) rfl rfl w8.heap.size (A3, bl.length, c3) rfl rfl 27 _ (Blk.new w8 27 _) rfl ?_; intro w9 o9 b9
           have H9 := Lib.hid (H8.out.put o9 b9)
           have BB9 := Lib.hid (show Below w8.heap.size w8 w9 from ((Below.refl _ _).alloc (Nat.le_refl _) _).trans (o9.below (by simp)))
           have P9 := Lib.hid ((P8.out.below BB9.out).more BB9.out.size)
           have Q9 := Lib.hid ((Q8.out.below BB9.out).more BB9.out.size)
           have X9 := Lib.hid ((X8.out.below BB9.out).more BB9.out.size)
           clear o9 b9 BB9)
        | ((with_reducible refine at_load 6 ?_); refine tyRr.wpList_load rfl (.tmp 6) rfl (w2.heap.size) 0 rfl ((A0, l.length, c0)) (RowC.of_blk (H9.out.at (x := (w2.heap.size, 28, (encR ((A0, l.length, c0))).toArray)) (by simp))) ?_))
    refine (rBack_r A0 c0 l _ HN1.out.2 ((HL.out.below H9.out.below).more H9.out.below.size)).mono ?_
    rintro e w10 ⟨A4, c4, rfl, r4, b10⟩
    rw [EB.out.1] at r4 ⊢
    rw [EB.out.2]
    have Y10 := Lib.hid r4
    have H10 := Lib.hid (H9.out.call b10)
    have P10 := Lib.hid ((P9.out.below b10).more b10.size)
    have Q10 := Lib.hid ((Q9.out.below b10).more b10.size)
    have X10 := Lib.hid ((X9.out.below b10).more b10.size)
    clear r4 b10 H9
    go_wp2_with (first
        | ((with_reducible refine at_store 11 43 ?_); refine tyRr.wpList_store rfl (.tmp 11) (.tmp 43) rfl rfl w10.heap.size (A4, bl.length, c4) rfl rfl 28 _ (Blk.new w10 28 _) rfl ?_; intro w11 o11 b11
           have H11 := Lib.hid (H10.out.put o11 b11)
           have BB11 := Lib.hid (show Below w10.heap.size w10 w11 from ((Below.refl _ _).alloc (Nat.le_refl _) _).trans (o11.below (by simp)))
           have P11 := Lib.hid ((P10.out.below BB11.out).more BB11.out.size)
           have Q11 := Lib.hid ((Q10.out.below BB11.out).more BB11.out.size)
           have X11 := Lib.hid ((X10.out.below BB11.out).more BB11.out.size)
           have Y11 := Lib.hid ((Y10.out.below BB11.out).more BB11.out.size)
           clear o11 b11 BB11)
        | ((with_reducible refine at_load 5 ?_); refine tyRg.wpList_load rfl (.tmp 5) rfl (w1.heap.size) 0 rfl ((A0, l.length, c0)) (RowC.of_blk (H11.out.at (x := (w1.heap.size, 27, (encR ((A0, l.length, c0))).toArray)) (by simp))) ?_))
    refine (HLA.out A0 c0 l _ HN1.out.1 ((HL.out.below H11.out.below).more H11.out.below.size)).mono ?_
    rintro e w12 ⟨rfl, b12⟩
    rw [EZ.out.1, EZ.out.2]
    have H12 := Lib.hid (H11.out.call b12)
    have P12 := Lib.hid ((P11.out.below b12).more b12.size)
    have Q12 := Lib.hid ((Q11.out.below b12).more b12.size)
    have X12 := Lib.hid ((X11.out.below b12).more b12.size)
    have Y12 := Lib.hid ((Y11.out.below b12).more b12.size)
    clear b12 H11
    go_wp2_with (first
        | ((with_reducible refine at_store 13 48 ?_); refine tyKc.wpList_store rfl (.tmp 13) (.tmp 48) rfl rfl w12.heap.size z rfl rfl 24 _ (Blk.new w12 24 _) rfl ?_; intro w13 o13 b13
           have H13 := Lib.hid (H12.out.put o13 b13)
           have BB13 := Lib.hid (show Below w12.heap.size w12 w13 from ((Below.refl _ _).alloc (Nat.le_refl _) _).trans (o13.below (by simp)))
           have P13 := Lib.hid ((P12.out.below BB13.out).more BB13.out.size)
           have Q13 := Lib.hid ((Q12.out.below BB13.out).more BB13.out.size)
           have X13 := Lib.hid ((X12.out.below BB13.out).more BB13.out.size)
           have Y13 := Lib.hid ((Y12.out.below BB13.out).more BB13.out.size)
           clear o13 b13 BB13)
        | ((with_reducible refine at_load 6 ?_); refine tyRr.wpList_load rfl (.tmp 6) rfl (w2.heap.size) 0 rfl ((A0, l.length, c0)) (RowC.of_blk (H13.out.at (x := (w2.heap.size, 28, (encR ((A0, l.length, c0))).toArray)) (by simp))) ?_))
    refine (rLast_r A0 c0 l _ ((HL.out.below H13.out.below).more H13.out.below.size) HN1.out.2).mono ?_
    rintro e w14 ⟨rfl, b14⟩
    rw [EZ.out.1, EZ.out.2]
    have H14 := Lib.hid (H13.out.call b14)
    have P14 := Lib.hid ((P13.out.below b14).more b14.size)
    have Q14 := Lib.hid ((Q13.out.below b14).more b14.size)
    have X14 := Lib.hid ((X13.out.below b14).more b14.size)
    have Y14 := Lib.hid ((Y13.out.below b14).more b14.size)
    clear b14 H13
    go_wp2_with (first
        | ((with_reducible refine at_store 15 53 ?_); refine tyKc.wpList_store rfl (.tmp 15) (.tmp 53) rfl rfl w14.heap.size z rfl rfl 24 _ (Blk.new w14 24 _) rfl ?_; intro w15 o15 b15
           have H15 := Lib.hid (H14.out.put o15 b15)
           have BB15 := Lib.hid (show Below w14.heap.size w14 w15 from ((Below.refl _ _).alloc (Nat.le_refl _) _).trans (o15.below (by simp)))
           have P15 := Lib.hid ((P14.out.below BB15.out).more BB15.out.size)
           have Q15 := Lib.hid ((Q14.out.below BB15.out).more BB15.out.size)
           have X15 := Lib.hid ((X14.out.below BB15.out).more BB15.out.size)
           have Y15 := Lib.hid ((Y14.out.below BB15.out).more BB15.out.size)
           clear o15 b15 BB15))
    have AS := Lib.hid (show Below w15.heap.size w15 w15.drew from (Below.refl w15.heap.size w15).drew)
    have BL := Lib.hid (show ∀ (x : Nat × TypeId × Array Value), x ∈ [(w14.heap.size, 24, (encK z).toArray), (w12.heap.size, 24, (encK z).toArray), (w10.heap.size, 28, (encR (A4, bl.length, c4)).toArray), (w8.heap.size, 27, (encR (A3, bl.length, c3)).toArray), (w6.heap.size, 28, (encR (A2, pl.length, c2)).toArray), (w4.heap.size, 27, (encR (A1, pl.length, c1)).toArray), (w2.heap.size, 28, (encR (A0, l.length, c0)).toArray), (w1.heap.size, 27, (encR (A0, l.length, c0)).toArray), (w.heap.size, 24, (encK k).toArray)] → ∀ W, Below w15.heap.size w15 W → Blk W x.1 x.2.1 x.2.2 from fun x hx W hb => below_blk hb (H15.out.blks x hx) (H15.out.blks x hx).lt)
    have PF := Lib.hid (show ∀ W, Below w15.heap.size w15 W → RowIn encK 32 W W.heap.size A1 c1 pl ∧ RowIn encK 32 W W.heap.size A2 c2 pl ∧ RowIn encK 32 W W.heap.size A3 c3 bl ∧ RowIn encK 32 W W.heap.size A4 c4 bl ∧ RowIn encK 32 W W.heap.size A0 c0 l from fun W hb => ⟨(P15.out.below hb).more hb.size, (Q15.out.below hb).more hb.size, (X15.out.below hb).more hb.size, (Y15.out.below hb).more hb.size, (HL.out.below (H15.out.below.trans (hb.mono H15.out.below.size))).more (Nat.le_trans H15.out.below.size hb.size)⟩)
    have HBW := Lib.hid H15.out.below
    obtain ⟨g14, hg14⟩ : ∃ g, w14.heap.size = g := ⟨_, rfl⟩
    obtain ⟨g12, hg12⟩ : ∃ g, w12.heap.size = g := ⟨_, rfl⟩
    obtain ⟨g10, hg10⟩ : ∃ g, w10.heap.size = g := ⟨_, rfl⟩
    obtain ⟨g8, hg8⟩ : ∃ g, w8.heap.size = g := ⟨_, rfl⟩
    obtain ⟨g6, hg6⟩ : ∃ g, w6.heap.size = g := ⟨_, rfl⟩
    obtain ⟨g4, hg4⟩ : ∃ g, w4.heap.size = g := ⟨_, rfl⟩
    obtain ⟨g2, hg2⟩ : ∃ g, w2.heap.size = g := ⟨_, rfl⟩
    obtain ⟨g1, hg1⟩ : ∃ g, w1.heap.size = g := ⟨_, rfl⟩
    rw [hg14, hg12, hg10, hg8, hg6, hg4, hg2, hg1] at BL ⊢
    clear hg14 hg12 hg10 hg8 hg6 hg4 hg2 hg1 H15 P15 Q15 X15 Y15 hd
    refine wp_region_held_drew (S := fun W => Below w15.heap.size w15 W) (by kernel_rfl) AS.out ?_
    intro hS
    refine wpAnyH_take (i := 0) (v := .pointer (some ⟨g4, 0, none⟩)) rfl (by kernel_rfl) (by kernel_rfl) (by kernel_rfl) (fun _ _ _ h => h) (Or.inl ⟨by rfl, fun W _ => by go_simp; try with_reducible rfl⟩) hS ?_
    simp only [Act.put, List.getElem_toArray, List.getElem_cons_zero, List.setIfInBounds_toArray, List.set_cons_succ, List.set_cons_zero]
    refine wpAnyH_take (i := 1) (v := .slice A1 pl.length c1) rfl (by kernel_rfl) (by kernel_rfl) (by kernel_rfl) (fun _ _ _ h => h) (Or.inl ⟨by rfl, fun W h => by have c1 : W.cell? ⟨g4, 0, none⟩ = some (.slice A1 pl.length c1) := (BL.out (g4, 27, (encR (A1, pl.length, c1)).toArray) (by simp) _ h).cell 0; go_simp⟩) hS ?_
    simp only [Act.put, List.getElem_toArray, List.getElem_cons_zero, List.getElem_cons_succ, List.setIfInBounds_toArray, List.set_cons_succ, List.set_cons_zero]
    refine wpAnyH_take (i := 2) (v := .pointer (some ⟨g6, 0, none⟩)) rfl (by kernel_rfl) (by kernel_rfl) (by kernel_rfl) (fun _ _ _ h => h) (Or.inl ⟨by rfl, fun W _ => by go_simp; try with_reducible rfl⟩) hS ?_
    simp only [Act.put, List.getElem_toArray, List.getElem_cons_zero, List.getElem_cons_succ, List.setIfInBounds_toArray, List.set_cons_succ, List.set_cons_zero]
    refine wpAnyH_take (i := 3) (v := .slice A2 pl.length c2) rfl (by kernel_rfl) (by kernel_rfl) (by kernel_rfl) (fun _ _ _ h => h) (Or.inl ⟨by rfl, fun W h => by have c1 : W.cell? ⟨g6, 0, none⟩ = some (.slice A2 pl.length c2) := (BL.out (g6, 28, (encR (A2, pl.length, c2)).toArray) (by simp) _ h).cell 0; go_simp⟩) hS ?_
    simp only [Act.put, List.getElem_toArray, List.getElem_cons_zero, List.getElem_cons_succ, List.setIfInBounds_toArray, List.set_cons_succ, List.set_cons_zero]
    refine wpAnyH_ready (rs := [4]) (by kernel_rfl) (by simp) ?_
    refine AllReadyH.cons rfl (fun Kq hK => ?_) AllReadyH.nil
    go_simp
    refine (asame_any A1 A2 c1 c2 pl pl _ (PF.out _ hS).1 (PF.out _ hS).2.1).mono ?_
    rintro e y1 ⟨rfl, b1⟩
    rw [decide_eq_true (rfl : pl = pl)]
    refine hK.out _ _ (hS.trans (b1.mono hS.size)) (fun hS => ?_)
    clear hK Kq b1
    refine wpAnyH_take (i := 5) (v := .bool true) rfl (by kernel_rfl) (by kernel_rfl) (by kernel_rfl) (fun _ _ _ h => h) (Or.inl ⟨by rfl, fun W _ => by go_simp; try with_reducible rfl⟩) hS ?_
    simp only [Act.put, List.getElem_toArray, List.getElem_cons_zero, List.getElem_cons_succ, List.setIfInBounds_toArray, List.set_cons_succ, List.set_cons_zero]
    refine wpAnyH_take (i := 6) (v := .pointer (some ⟨g8, 0, none⟩)) rfl (by kernel_rfl) (by kernel_rfl) (by kernel_rfl) (fun _ _ _ h => h) (Or.inl ⟨by rfl, fun W _ => by go_simp; try with_reducible rfl⟩) hS ?_
    simp only [Act.put, List.getElem_toArray, List.getElem_cons_zero, List.getElem_cons_succ, List.setIfInBounds_toArray, List.set_cons_succ, List.set_cons_zero]
    refine wpAnyH_take (i := 7) (v := .slice A3 bl.length c3) rfl (by kernel_rfl) (by kernel_rfl) (by kernel_rfl) (fun _ _ _ h => h) (Or.inl ⟨by rfl, fun W h => by have c1 : W.cell? ⟨g8, 0, none⟩ = some (.slice A3 bl.length c3) := (BL.out (g8, 27, (encR (A3, bl.length, c3)).toArray) (by simp) _ h).cell 0; go_simp⟩) hS ?_
    simp only [Act.put, List.getElem_toArray, List.getElem_cons_zero, List.getElem_cons_succ, List.setIfInBounds_toArray, List.set_cons_succ, List.set_cons_zero]
    refine wpAnyH_take (i := 8) (v := .pointer (some ⟨g10, 0, none⟩)) rfl (by kernel_rfl) (by kernel_rfl) (by kernel_rfl) (fun _ _ _ h => h) (Or.inl ⟨by rfl, fun W _ => by go_simp; try with_reducible rfl⟩) hS ?_
    simp only [Act.put, List.getElem_toArray, List.getElem_cons_zero, List.getElem_cons_succ, List.setIfInBounds_toArray, List.set_cons_succ, List.set_cons_zero]
    refine wpAnyH_take (i := 9) (v := .slice A4 bl.length c4) rfl (by kernel_rfl) (by kernel_rfl) (by kernel_rfl) (fun _ _ _ h => h) (Or.inl ⟨by rfl, fun W h => by have c1 : W.cell? ⟨g10, 0, none⟩ = some (.slice A4 bl.length c4) := (BL.out (g10, 28, (encR (A4, bl.length, c4)).toArray) (by simp) _ h).cell 0; go_simp⟩) hS ?_
    simp only [Act.put, List.getElem_toArray, List.getElem_cons_zero, List.getElem_cons_succ, List.setIfInBounds_toArray, List.set_cons_succ, List.set_cons_zero]
    refine wpAnyH_ready (rs := [10]) (by kernel_rfl) (by simp) ?_
    refine AllReadyH.cons rfl (fun Kq hK => ?_) AllReadyH.nil
    go_simp
    refine (asame_any A3 A4 c3 c4 bl bl _ (PF.out _ hS).2.2.1 (PF.out _ hS).2.2.2.1).mono ?_
    rintro e y2 ⟨rfl, b2⟩
    rw [decide_eq_true (rfl : bl = bl)]
    refine hK.out _ _ (hS.trans (b2.mono hS.size)) (fun hS => ?_)
    clear hK Kq b2
    refine wpAnyH_take (i := 11) (v := .bool true) rfl (by kernel_rfl) (by kernel_rfl) (by kernel_rfl) (fun _ _ _ h => h) (Or.inl ⟨by rfl, fun W _ => by go_simp; try with_reducible rfl⟩) hS ?_
    simp only [Act.put, List.getElem_toArray, List.getElem_cons_zero, List.getElem_cons_succ, List.setIfInBounds_toArray, List.set_cons_succ, List.set_cons_zero]
    refine wpAnyH_take (i := 12) (v := .bool true) rfl (by kernel_rfl) (by kernel_rfl) (by kernel_rfl) (fun _ _ _ h => h) (Or.inl ⟨by rfl, fun W _ => by go_simp; try with_reducible rfl⟩) hS ?_
    simp only [Act.put, List.getElem_toArray, List.getElem_cons_zero, List.getElem_cons_succ, List.setIfInBounds_toArray, List.set_cons_succ, List.set_cons_zero]
    refine wpAnyH_take (i := 13) (v := .int .i64 el) rfl (by kernel_rfl) (by kernel_rfl) (by kernel_rfl) (fun _ _ _ h => h) (Or.inl ⟨by rfl, fun W _ => by go_simp; try with_reducible rfl⟩) hS ?_
    simp only [Act.put, List.getElem_toArray, List.getElem_cons_zero, List.getElem_cons_succ, List.setIfInBounds_toArray, List.set_cons_succ, List.set_cons_zero]
    refine wpAnyH_take (i := 14) (v := .int .i64 el) rfl (by kernel_rfl) (by kernel_rfl) (by kernel_rfl) (fun _ _ _ h => h) (Or.inl ⟨by rfl, fun W _ => by go_simp; try with_reducible rfl⟩) hS ?_
    simp only [Act.put, List.getElem_toArray, List.getElem_cons_zero, List.getElem_cons_succ, List.setIfInBounds_toArray, List.set_cons_succ, List.set_cons_zero]
    refine wpAnyH_take (i := 15) (v := .bool true) rfl (by kernel_rfl) (by kernel_rfl) (by kernel_rfl) (fun _ _ _ h => h) (Or.inl ⟨by rfl, fun W _ => by go_simp; try with_reducible rfl⟩) hS ?_
    simp only [Act.put, List.getElem_toArray, List.getElem_cons_zero, List.getElem_cons_succ, List.setIfInBounds_toArray, List.set_cons_succ, List.set_cons_zero]
    refine wpAnyH_take (i := 16) (v := .bool true) rfl (by kernel_rfl) (by kernel_rfl) (by kernel_rfl) (fun _ _ _ h => h) (Or.inl ⟨by rfl, fun W _ => by go_simp; try with_reducible rfl⟩) hS ?_
    simp only [Act.put, List.getElem_toArray, List.getElem_cons_zero, List.getElem_cons_succ, List.setIfInBounds_toArray, List.set_cons_succ, List.set_cons_zero]
    refine wpAnyH_take (i := 17) (v := .bool true) rfl (by kernel_rfl) (by kernel_rfl) (by kernel_rfl) (fun _ _ _ h => h) (Or.inl ⟨by rfl, fun W _ => by go_simp; try with_reducible rfl⟩) hS ?_
    simp only [Act.put, List.getElem_toArray, List.getElem_cons_zero, List.getElem_cons_succ, List.setIfInBounds_toArray, List.set_cons_succ, List.set_cons_zero]
    refine wpAnyH_take (i := 18) (v := .agg (encK z).toArray) rfl (by kernel_rfl) (by kernel_rfl) (by kernel_rfl) (fun _ _ _ h => h) (tyKc.yieldsIf_load (by rfl) (.tmp 13) rfl g12 0 rfl z (fun W h => RowC.of_blk (BL.out (g12, 24, (encK z).toArray) (by simp) _ h))) hS ?_
    simp only [Act.put, List.getElem_toArray, List.getElem_cons_zero, List.getElem_cons_succ, List.setIfInBounds_toArray, List.set_cons_succ, List.set_cons_zero]
    refine wpAnyH_take (i := 19) (v := .agg (encK z).toArray) rfl (by kernel_rfl) (by kernel_rfl) (by kernel_rfl) (fun _ _ _ h => h) (tyKc.yieldsIf_load (by rfl) (.tmp 15) rfl g14 0 rfl z (fun W h => RowC.of_blk (BL.out (g14, 24, (encK z).toArray) (by simp) _ h))) hS ?_
    simp only [Act.put, List.getElem_toArray, List.getElem_cons_zero, List.getElem_cons_succ, List.setIfInBounds_toArray, List.set_cons_succ, List.set_cons_zero]
    refine wpAnyH_take (i := 20) (v := .bool true) rfl (by kernel_rfl) (by kernel_rfl) (by kernel_rfl) (fun _ _ _ h => h) (yieldsIf_eql_row (by rfl) 24 24 (.tmp 73) (.tmp 74) rfl (encK z).toArray (encK z).toArray rfl rfl (by kernel_rfl) true (fun V => (eqKy_run _ _ V).trans (by simp))) hS ?_
    simp only [Act.put, List.getElem_toArray, List.getElem_cons_zero, List.getElem_cons_succ, List.setIfInBounds_toArray, List.set_cons_succ, List.set_cons_zero]
    refine wpAnyH_take (i := 21) (v := .bool true) rfl (by kernel_rfl) (by kernel_rfl) (by kernel_rfl) (fun _ _ _ h => h) (Or.inl ⟨by rfl, fun W _ => by go_simp; try with_reducible rfl⟩) hS ?_
    simp only [Act.put, List.getElem_toArray, List.getElem_cons_zero, List.getElem_cons_succ, List.setIfInBounds_toArray, List.set_cons_succ, List.set_cons_zero]
    refine wpAnyH_take (i := 22) (v := .bool true) rfl (by kernel_rfl) (by kernel_rfl) (by kernel_rfl) (fun _ _ _ h => h) (Or.inl ⟨by rfl, fun W _ => by go_simp; try with_reducible rfl⟩) hS ?_
    simp only [Act.put, List.getElem_toArray, List.getElem_cons_zero, List.getElem_cons_succ, List.setIfInBounds_toArray, List.set_cons_succ, List.set_cons_zero]
    refine wpAnyH_take (i := 23) (v := .bool t) rfl (by kernel_rfl) (by kernel_rfl) (by kernel_rfl) (fun _ _ _ h => h) (Or.inl ⟨by rfl, fun W _ => by go_simp; try with_reducible rfl⟩) hS ?_
    simp only [Act.put, List.getElem_toArray, List.getElem_cons_zero, List.getElem_cons_succ, List.setIfInBounds_toArray, List.set_cons_succ, List.set_cons_zero]
    refine wpAnyH_take (i := 24) (v := .bool t) rfl (by kernel_rfl) (by kernel_rfl) (by kernel_rfl) (fun _ _ _ h => h) (Or.inl ⟨by rfl, fun W _ => by go_simp; try with_reducible rfl⟩) hS ?_
    simp only [Act.put, List.getElem_toArray, List.getElem_cons_zero, List.getElem_cons_succ, List.setIfInBounds_toArray, List.set_cons_succ, List.set_cons_zero]
    refine wpAnyH_take (i := 25) (v := .bool true) rfl (by kernel_rfl) (by kernel_rfl) (by kernel_rfl) (fun _ _ _ h => h) (Or.inl ⟨by rfl, fun W _ => by go_simp; try with_reducible rfl⟩) hS ?_
    simp only [Act.put, List.getElem_toArray, List.getElem_cons_zero, List.getElem_cons_succ, List.setIfInBounds_toArray, List.set_cons_succ, List.set_cons_zero]
    refine wpAnyH_take (i := 26) (v := .bool true) rfl (by kernel_rfl) (by kernel_rfl) (by kernel_rfl) (fun _ _ _ h => h) (Or.inl ⟨by rfl, fun W _ => by go_simp; try with_reducible rfl⟩) hS ?_
    simp only [Act.put, List.getElem_toArray, List.getElem_cons_zero, List.getElem_cons_succ, List.setIfInBounds_toArray, List.set_cons_succ, List.set_cons_zero]
    refine wpAnyH_take (i := 27) (v := .bool true) rfl (by kernel_rfl) (by kernel_rfl) (by kernel_rfl) (fun _ _ _ h => h) (Or.inl ⟨by rfl, fun W _ => by go_simp; try with_reducible rfl⟩) hS ?_
    simp only [Act.put, List.getElem_toArray, List.getElem_cons_zero, List.getElem_cons_succ, List.setIfInBounds_toArray, List.set_cons_succ, List.set_cons_zero]
    refine wpAnyH_take (i := 28) (v := .agg (encR (A0, l.length, c0)).toArray) rfl (by kernel_rfl) (by kernel_rfl) (by kernel_rfl) (fun _ _ _ h => h) (tyRg.yieldsIf_load (by rfl) (.tmp 5) rfl g1 0 rfl (A0, l.length, c0) (fun W h => RowC.of_blk (BL.out (g1, 27, (encR (A0, l.length, c0)).toArray) (by simp) _ h))) hS ?_
    simp only [Act.put, List.getElem_toArray, List.getElem_cons_zero, List.getElem_cons_succ, List.setIfInBounds_toArray, List.set_cons_succ, List.set_cons_zero]
    refine wpAnyH_take (i := 29) (v := .agg (encK k).toArray) rfl (by kernel_rfl) (by kernel_rfl) (by kernel_rfl) (fun _ _ _ h => h) (tyKc.yieldsIf_load (by rfl) (.tmp 3) rfl w.heap.size 0 rfl k (fun W h => RowC.of_blk (BL.out (w.heap.size, 24, (encK k).toArray) (by simp) _ h))) hS ?_
    simp only [Act.put, List.getElem_toArray, List.getElem_cons_zero, List.getElem_cons_succ, List.setIfInBounds_toArray, List.set_cons_succ, List.set_cons_zero]
    refine wpAnyH_take (i := 31) (v := .agg (encR (A0, l.length, c0)).toArray) rfl (by kernel_rfl) (by kernel_rfl) (by kernel_rfl) (fun _ _ _ h => h) (tyRr.yieldsIf_load (by rfl) (.tmp 6) rfl g2 0 rfl (A0, l.length, c0) (fun W h => RowC.of_blk (BL.out (g2, 28, (encR (A0, l.length, c0)).toArray) (by simp) _ h))) hS ?_
    simp only [Act.put, List.getElem_toArray, List.getElem_cons_zero, List.getElem_cons_succ, List.setIfInBounds_toArray, List.set_cons_succ, List.set_cons_zero]
    refine wpAnyH_take (i := 32) (v := .agg (encK k).toArray) rfl (by kernel_rfl) (by kernel_rfl) (by kernel_rfl) (fun _ _ _ h => h) (tyKc.yieldsIf_load (by rfl) (.tmp 3) rfl w.heap.size 0 rfl k (fun W h => RowC.of_blk (BL.out (w.heap.size, 24, (encK k).toArray) (by simp) _ h))) hS ?_
    simp only [Act.put, List.getElem_toArray, List.getElem_cons_zero, List.getElem_cons_succ, List.setIfInBounds_toArray, List.set_cons_succ, List.set_cons_zero]
    refine wpAnyH_ready (rs := [30]) (by kernel_rfl) (by simp) ?_
    refine AllReadyH.cons rfl (fun Kq hK => ?_) AllReadyH.nil
    go_simp
    refine (HH.out A0 c0 l k _ HN1.out.1 (PF.out _ hS).2.2.2.2).mono ?_
    rintro e y3 ⟨rfl, b3⟩
    rw [EH.out]
    refine hK.out _ _ (hS.trans (b3.mono hS.size)) (fun hS => ?_)
    clear hK Kq b3
    refine wpAnyH_ready (rs := [33]) (by kernel_rfl) (by simp) ?_
    refine AllReadyH.cons rfl (fun Kq hK => ?_) AllReadyH.nil
    go_simp
    refine (rHas_r A0 c0 l k _ (PF.out _ hS).2.2.2.2 HN1.out.2).mono ?_
    rintro e y4 ⟨rfl, b4⟩
    rw [EH.out]
    refine hK.out _ _ (hS.trans (b4.mono hS.size)) (fun hS => ?_)
    clear hK Kq b4
    refine wpAnyH_take (i := 34) (v := .bool true) rfl (by kernel_rfl) (by kernel_rfl) (by kernel_rfl) (fun _ _ _ h => h) (Or.inl ⟨by rfl, fun W _ => by go_simp; try with_reducible rfl⟩) hS ?_
    simp only [Act.put, List.getElem_toArray, List.getElem_cons_zero, List.getElem_cons_succ, List.setIfInBounds_toArray, List.set_cons_succ, List.set_cons_zero]
    refine wpAnyH_take (i := 35) (v := .bool true) rfl (by kernel_rfl) (by kernel_rfl) (by kernel_rfl) (fun _ _ _ h => h) (Or.inl ⟨by rfl, fun W _ => by go_simp; try with_reducible rfl⟩) hS ?_
    simp only [Act.put, List.getElem_toArray, List.getElem_cons_zero, List.getElem_cons_succ, List.setIfInBounds_toArray, List.set_cons_succ, List.set_cons_zero]
    refine wpAnyH_take (i := 36) (v := .bool true) rfl (by kernel_rfl) (by kernel_rfl) (by kernel_rfl) (fun _ _ _ h => h) (Or.inl ⟨by rfl, fun W _ => by go_simp; try with_reducible rfl⟩) hS ?_
    simp only [Act.put, List.getElem_toArray, List.getElem_cons_zero, List.getElem_cons_succ, List.setIfInBounds_toArray, List.set_cons_succ, List.set_cons_zero]
    refine wpAnyH_take (i := 37) (v := .agg (encK k).toArray) rfl (by kernel_rfl) (by kernel_rfl) (by kernel_rfl) (fun _ _ _ h => h) (tyKc.yieldsIf_load (by rfl) (.tmp 3) rfl w.heap.size 0 rfl k (fun W h => RowC.of_blk (BL.out (w.heap.size, 24, (encK k).toArray) (by simp) _ h))) hS ?_
    simp only [Act.put, List.getElem_toArray, List.getElem_cons_zero, List.getElem_cons_succ, List.setIfInBounds_toArray, List.set_cons_succ, List.set_cons_zero]
    refine wpAnyH_take (i := 40) (v := .agg (encK k).toArray) rfl (by kernel_rfl) (by kernel_rfl) (by kernel_rfl) (fun _ _ _ h => h) (tyKc.yieldsIf_load (by rfl) (.tmp 3) rfl w.heap.size 0 rfl k (fun W h => RowC.of_blk (BL.out (w.heap.size, 24, (encK k).toArray) (by simp) _ h))) hS ?_
    simp only [Act.put, List.getElem_toArray, List.getElem_cons_zero, List.getElem_cons_succ, List.setIfInBounds_toArray, List.set_cons_succ, List.set_cons_zero]
    refine wpAnyH_ready (rs := [38, 41]) (by kernel_rfl) (by simp) ?_
    refine AllReadyH.cons rfl (fun Kq hK => ?_) (AllReadyH.cons rfl (fun Kq hK => ?_) AllReadyH.nil)
    · go_simp
      refine (HN.out k _).mono ?_
      rintro e y5 ⟨A9, c9, rfl, r9, b5⟩
      have R9 := Lib.hid r9
      refine hK.out _ _ (hS.trans (b5.mono hS.size)) (fun hS => ?_)
      clear hK Kq b5 r9
      refine wpAnyH_take (i := 39) (v := .slice A9 1 c9) rfl (by kernel_rfl) (by kernel_rfl) (by kernel_rfl) (fun _ _ _ h => h) (Or.inl ⟨by rfl, fun W _ => by have hf := afield_ring A9 1 c9 W; go_simp⟩) hS ?_
      simp only [Act.put, List.getElem_toArray, List.getElem_cons_zero, List.getElem_cons_succ, List.setIfInBounds_toArray, List.set_cons_succ, List.set_cons_zero]
      refine wpAnyH_ready (rs := [41]) (by kernel_rfl) (by simp) ?_
      refine AllReadyH.cons rfl (fun Kq hK => ?_) AllReadyH.nil
      refine step_unguard (by rfl) ?_
      refine tyKy.step_build rfl azsK 1 _ rfl [k] rfl (by omega) (by omega) (by kernel_rfl) ?_
      have K5 := Lib.hid (Blk.new y5 24 (cellsOf encK [k]).toArray)
      have R10 := Lib.hid ((R9.out.below ((Below.refl y5.heap.size y5).alloc (Nat.le_refl _) (.cells (cellsOf encK [k]).toArray 24))).more (by simp : y5.heap.size ≤ (y5.alloc (.cells (cellsOf encK [k]).toArray 24)).heap.size))
      obtain ⟨gb, hgb⟩ : ∃ gb, y5.heap.size = gb := ⟨_, rfl⟩
      rw [hgb] at K5 ⊢
      refine hK.out _ _ (hS.alloc hS.size _) (fun hS => ?_)
      clear hK Kq hgb
      simp only [Act.put, List.getElem_toArray, List.getElem_cons_zero, List.getElem_cons_succ, List.setIfInBounds_toArray, List.set_cons_succ, List.set_cons_zero]
      refine wpAnyH_ready (rs := [42]) (by kernel_rfl) (by simp) ?_
      refine AllReadyH.cons rfl (fun Kq hK => ?_) AllReadyH.nil
      go_simp
      refine (asame_any A9 (some ⟨gb, 0, none⟩) c9 1 [k] [k] _ R10.out (rowIn_new K5.out (by simp) (by unfold maxLen; omega))).mono ?_
      rintro e y6 ⟨rfl, b6⟩
      rw [decide_eq_true (rfl : [k] = [k])]
      refine hK.out _ _ (hS.trans (b6.mono hS.size)) (fun hS => ?_)
      clear hK Kq b6
      refine wpAnyH_take (i := 43) (v := .bool true) rfl (by kernel_rfl) (by kernel_rfl) (by kernel_rfl) (fun _ _ _ h => h) (Or.inl ⟨by rfl, fun W _ => by go_simp; try with_reducible rfl⟩) hS ?_
      simp only [Act.put, List.getElem_toArray, List.getElem_cons_zero, List.getElem_cons_succ, List.setIfInBounds_toArray, List.set_cons_succ, List.set_cons_zero]
      refine wpAnyH_ready (rs := [44]) (by kernel_rfl) (by simp) ?_
      refine AllReadyH.cons rfl (fun Kq hK => ?_) AllReadyH.nil
      go_simp
      refine hK.out _ _ hS (fun hS => ?_)
      clear hK Kq
      refine wpAnyH_done (by kernel_rfl) ?_ _
      go_wp2_with fail
      go_ret
      exact ⟨rfl, HBW.out.trans (hS.mono HBW.out.size)⟩
    · refine step_unguard (by rfl) ?_
      refine tyKy.step_build rfl azsK 1 _ rfl [k] rfl (by omega) (by omega) (by kernel_rfl) ?_
      have K5 := Lib.hid (Blk.new y4 24 (cellsOf encK [k]).toArray)
      obtain ⟨gb, hgb⟩ : ∃ gb, y4.heap.size = gb := ⟨_, rfl⟩
      rw [hgb] at K5 ⊢
      refine hK.out _ _ (hS.alloc hS.size _) (fun hS => ?_)
      clear hK Kq hgb
      simp only [Act.put, List.getElem_toArray, List.getElem_cons_zero, List.getElem_cons_succ, List.setIfInBounds_toArray, List.set_cons_succ, List.set_cons_zero]
      refine wpAnyH_ready (rs := [38]) (by kernel_rfl) (by simp) ?_
      refine AllReadyH.cons rfl (fun Kq hK => ?_) AllReadyH.nil
      go_simp
      refine (HN.out k _).mono ?_
      rintro e y5 ⟨A9, c9, rfl, r9, b5⟩
      have R9 := Lib.hid r9
      have K6 := Lib.hid (below_blk b5 K5.out K5.out.lt)
      refine hK.out _ _ (hS.trans (b5.mono hS.size)) (fun hS => ?_)
      clear hK Kq b5 r9
      refine wpAnyH_take (i := 39) (v := .slice A9 1 c9) rfl (by kernel_rfl) (by kernel_rfl) (by kernel_rfl) (fun _ _ _ h => h) (Or.inl ⟨by rfl, fun W _ => by have hf := afield_ring A9 1 c9 W; go_simp⟩) hS ?_
      simp only [Act.put, List.getElem_toArray, List.getElem_cons_zero, List.getElem_cons_succ, List.setIfInBounds_toArray, List.set_cons_succ, List.set_cons_zero]
      refine wpAnyH_ready (rs := [42]) (by kernel_rfl) (by simp) ?_
      refine AllReadyH.cons rfl (fun Kq hK => ?_) AllReadyH.nil
      go_simp
      refine (asame_any A9 (some ⟨gb, 0, none⟩) c9 1 [k] [k] _ R9.out (rowIn_new K6.out (by simp) (by unfold maxLen; omega))).mono ?_
      rintro e y6 ⟨rfl, b6⟩
      rw [decide_eq_true (rfl : [k] = [k])]
      refine hK.out _ _ (hS.trans (b6.mono hS.size)) (fun hS => ?_)
      clear hK Kq b6
      refine wpAnyH_take (i := 43) (v := .bool true) rfl (by kernel_rfl) (by kernel_rfl) (by kernel_rfl) (fun _ _ _ h => h) (Or.inl ⟨by rfl, fun W _ => by go_simp; try with_reducible rfl⟩) hS ?_
      simp only [Act.put, List.getElem_toArray, List.getElem_cons_zero, List.getElem_cons_succ, List.setIfInBounds_toArray, List.set_cons_succ, List.set_cons_zero]
      refine wpAnyH_ready (rs := [44]) (by kernel_rfl) (by simp) ?_
      refine AllReadyH.cons rfl (fun Kq hK => ?_) AllReadyH.nil
      go_simp
      refine hK.out _ _ hS (fun hS => ?_)
      clear hK Kq
      refine wpAnyH_done (by kernel_rfl) ?_ _
      go_wp2_with fail
      go_ret
      exact ⟨rfl, HBW.out.trans (hS.mono HBW.out.size)⟩
end Go.Proofs.Ytiifamfophbbcaa
