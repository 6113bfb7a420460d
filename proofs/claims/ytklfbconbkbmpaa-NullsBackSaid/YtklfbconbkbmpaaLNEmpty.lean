/- NullsEmpty: the statement's walk. Written by genLN.py. -/
import Derived.Test.YtklfbconbkbmpaaNulR
namespace Go.Proofs.Ytklfbconbkbmpaa
open Go.RowKit
theorem freeN_nil (s : List K32) : freeN s [] = true := freeN_iff.2 ⟨fun x h => (by cases h), List.Pairwise.nil⟩
theorem spendN_nil (s : List K32) : spendN s [] = (s, 0) := by unfold spendN; rw [if_pos (freeN_nil s)]; rfl
theorem free_of_nil (l : List K32) : freeN [] l = decide l.Nodup := by
  rw [Bool.eq_iff_iff, freeN_iff, decide_eq_true_iff]
  exact ⟨fun h => h.2, fun h => ⟨fun x _ hx => (by cases hx), h⟩⟩
set_option maxRecDepth 20000 in
set_option maxHeartbeats 4000000 in
theorem nempty_h1 (HSP : SpendOk) (_ : UnspendOk) (_ : FreeOk) (A : Option Addr) (c : Nat) (l : List K32) (k : K32) (w : World) (hl : RowIn encK 32 w w.heap.size A c l) (h1 : 100 < l.length) :
    Calls Try.prog 6 #[.slice A l.length c, .agg (encK k).toArray] w fun e w' => e = .returned (.bool true) ∧ Below w.heap.size w w' := by
  have SH := Lib.hid (fun W => nshown_any HSP W)
  have H0 := Lib.hid ((Holds.nil w).box 29 (encK k).toArray)
  have R0 := Lib.hid (((KRows.nil w).cons hl).on ((Below.refl w.heap.size w).alloc (Nat.le_refl _) (.cells (encK k).toArray 29)))
  have hd : decide ((100 : Int) < (l.length : Int)) = true := by simp; omega
  clear HSP hl h1
  go_enter Try.func6, Try.ntmps6
  go_wp2_with fail
  refine (SH.out _).mono ?_
  rintro e w1 ⟨rfl, bq⟩
  have H1 := Lib.hid (H0.out.call bq)
  have R1 := Lib.hid (R0.out.on bq)
  clear bq H0 R0
  go_wp2_with fail
  go_ret
  exact ⟨rfl, H1.out.below⟩
set_option maxRecDepth 20000 in
set_option maxHeartbeats 4000000 in
theorem nempty_no (HSP : SpendOk) (_ : UnspendOk) (_ : FreeOk) (A : Option Addr) (c : Nat) (l : List K32) (k : K32) (w : World) (hl : RowIn encK 32 w w.heap.size A c l) (h1 : l.length ≤ 100) (h2 : decide l.Nodup = false) :
    Calls Try.prog 6 #[.slice A l.length c, .agg (encK k).toArray] w fun e w' => e = .returned (.bool true) ∧ Below w.heap.size w w' := by
  have SH := Lib.hid (fun W => nshown_any HSP W)
  unfold SpendOk at HSP
  have HS := Lib.hid HSP
  have HN := Lib.hid h1
  have HD := Lib.hid h2
  have HX := Lib.hid (show spendN [] l = ([], 161) by unfold spendN; rw [free_of_nil, h2]; rfl)
  have H0 := Lib.hid ((Holds.nil w).box 29 (encK k).toArray)
  have R0 := Lib.hid (((KRows.nil w).cons hl).on ((Below.refl w.heap.size w).alloc (Nat.le_refl _) (.cells (encK k).toArray 29)))
  have hd : decide ((100 : Int) < (l.length : Int)) = false := by simp; omega
  clear HSP hl h1 h2
  go_enter Try.func6, Try.ntmps6
  go_wp2_with fail
  refine (SH.out _).mono ?_
  rintro e w1 ⟨rfl, bq⟩
  have H1 := Lib.hid (H0.out.call bq)
  have R1 := Lib.hid (R0.out.on bq)
  clear bq H0 R0
  go_wp2_with fail
  refine (HS.out none A 0 c [] l _ (RowIn.nil (Nat.zero_le _)) (R1.out.at (by simp)) (by decide) (by have := HN.out; omega)).mono ?_
  rw [HX.out]
  rintro e w2 ⟨A1, c1, rfl, rq, bq⟩
  have H2 := Lib.hid (H1.out.call bq)
  have R2 := Lib.hid ((R1.out.on bq).cons rq)
  clear bq rq H1 R1
  go_wp2_with fail
  refine (refDistinct_any A c l _ (by have := HN.out; omega) _ (Nat.le_refl _) (R2.out.at (by simp))).mono ?_
  rintro e w3 ⟨rfl, bq⟩
  rw [HD.out]
  have H3 := Lib.hid (H2.out.call bq)
  have R3 := Lib.hid (R2.out.on bq)
  clear bq H2 R2
  go_wp2_with fail
  go_ret
  exact ⟨rfl, H3.out.below⟩
set_option maxRecDepth 20000 in
set_option maxHeartbeats 4000000 in
theorem nempty_true (HSP : SpendOk) (HUN : UnspendOk) (HFR : FreeOk) (A : Option Addr) (c : Nat) (l : List K32) (k : K32) (w : World) (hl : RowIn encK 32 w w.heap.size A c l) (h1 : l.length ≤ 100) (h2 : decide l.Nodup = true) (h3 : decide (k ∈ l) = true) :
    Calls Try.prog 6 #[.slice A l.length c, .agg (encK k).toArray] w fun e w' => e = .returned (.bool true) ∧ Below w.heap.size w w' := by
  have SH := Lib.hid (fun W => nshown_any HSP W)
  unfold SpendOk at HSP
  unfold UnspendOk at HUN
  unfold FreeOk at HFR
  have HS := Lib.hid HSP
  have HU := Lib.hid HUN
  have HF := Lib.hid HFR
  have hnd := of_decide_eq_true h2
  have hfr : freeN [] l = true := by rw [free_of_nil, h2]
  obtain ⟨s, hs⟩ : ∃ s, addL [] l = s := ⟨_, rfl⟩
  have HX := Lib.hid (show spendN [] l = (s, 0) by unfold spendN; rw [if_pos hfr, hs])
  have hk : k ∈ s ↔ k ∈ l := by rw [← hs, addL_mem]; simp
  have HE := Lib.hid (show undoN s [k] = (s.erase k, 0) from by unfold undoN; rw [if_pos (hk.2 (of_decide_eq_true h3))]; rfl)
  have HB := Lib.hid (show undoN s l = ([], 0) by rw [← hs]; exact spend_undo (s := []) List.Pairwise.nil hfr)
  have HN := Lib.hid (show l.length ≤ 100 ∧ s.length ≤ 100 by have := addL_le l []; rw [hs] at this; simp at this; omega)
  have HKI := Lib.hid h3
  have H0 := Lib.hid ((Holds.nil w).box 29 (encK k).toArray)
  have R0 := Lib.hid (((KRows.nil w).cons hl).on ((Below.refl w.heap.size w).alloc (Nat.le_refl _) (.cells (encK k).toArray 29)))
  have hd : decide ((100 : Int) < (l.length : Int)) = false := by simp; omega
  clear HSP HUN HFR hl h1 h2 h3 hnd hfr hs hk
  go_enter Try.func6, Try.ntmps6
  go_wp2_with fail
  refine (SH.out _).mono ?_
  rintro e w1 ⟨rfl, bq⟩
  have H1 := Lib.hid (H0.out.call bq)
  have R1 := Lib.hid (R0.out.on bq)
  clear bq H0 R0
  go_wp2_with fail
  refine (HS.out none A 0 c [] l _ (RowIn.nil (Nat.zero_le _)) (R1.out.at (by simp)) (by decide) (by have := HN.out; omega)).mono ?_
  rw [HX.out]
  rintro e w2 ⟨A1, c1, rfl, rq, bq⟩
  have H2 := Lib.hid (H1.out.call bq)
  have R2 := Lib.hid ((R1.out.on bq).cons rq)
  clear bq rq H1 R1
  go_wp2_with fail
  refine (HS.out A1 none c1 0 s [] _ (R2.out.at (by simp)) (RowIn.nil (Nat.zero_le _)) (by have := HN.out; omega) (by decide)).mono ?_
  rw [spendN_nil]
  rintro e w3 ⟨A2, c2, rfl, rq, bq⟩
  have H3 := Lib.hid (H2.out.call bq)
  have R3 := Lib.hid ((R2.out.on bq).cons rq)
  clear bq rq H2 R2
  go_wp2_with fail
  refine (HU.out A1 none c1 0 s [] _ (R3.out.at (by simp)) (RowIn.nil (Nat.zero_le _)) (by have := HN.out; omega) (by decide)).mono ?_
  rw [show undoN s [] = (s, 0) from rfl]
  rintro e w4 ⟨A3, c3, rfl, rq, bq⟩
  have H4 := Lib.hid (H3.out.call bq)
  have R4 := Lib.hid ((R3.out.on bq).cons rq)
  clear bq rq H3 R3
  have RK := Lib.hid (R4.out.on ((Below.refl w4.heap.size w4).alloc (Nat.le_refl _) (.cells (cellsOf encK [k]).toArray 29)))
  have HK := Lib.hid (H4.out.box 29 (cellsOf encK [k]).toArray)
  go_wp2_with (first
      | ((with_reducible refine at_load 3 ?_); refine tyKc.wpList_load rfl (.tmp 3) rfl (w.heap.size) (0) rfl (k) (RowC.of_blk (H4.out.at (x := (w.heap.size, 29, (encK k).toArray)) (by simp))) ?_)
      | ((with_reducible refine at_buildSlice 46 ?_); refine tyKy.wpList_build rfl nzsK 1 _ rfl [k] rfl (by omega) (by omega) (by kernel_rfl) ?_))
  clear H4 R4
  refine (HU.out A1 _ c1 1 s [k] _ (RK.out.at (by simp)) (key_row (Blk.new w4 29 _) (by simp) (by decide)) (by have := HN.out; omega) (by simp)).mono ?_
  rw [HE.out]
  rintro e w5 ⟨A4, c4, rfl, _, bq⟩
  have H5 := Lib.hid ((HK.out.call bq).drop)
  have R5 := Lib.hid (RK.out.on bq)
  clear bq HK RK
  go_wp2_with fail
  refine (HU.out A1 A c1 c s l _ (R5.out.at (by simp)) (R5.out.at (by simp)) (by have := HN.out; omega) (by have := HN.out; omega)).mono ?_
  rw [HB.out]
  rintro e w6 ⟨A5, c5, rfl, rq, bq⟩
  have H6 := Lib.hid (H5.out.call bq)
  have R6 := Lib.hid ((R5.out.on bq).cons rq)
  clear bq rq H5 R5
  go_wp2_with fail
  refine (same_any A2 c2 s A1 c1 s _ (by have := HN.out; omega) (by have := HN.out; omega) (R6.out.at (by simp)) (R6.out.at (by simp))).mono ?_
  rintro e w7 ⟨rfl, bq⟩
  rw [show decide (s = s) = true from decide_eq_true rfl]
  have H7 := Lib.hid (H6.out.call bq)
  have R7 := Lib.hid (R6.out.on bq)
  clear bq H6 R6
  go_wp2_with fail
  refine (same_any A3 c3 s A1 c1 s _ (by have := HN.out; omega) (by have := HN.out; omega) (R7.out.at (by simp)) (R7.out.at (by simp))).mono ?_
  rintro e w8 ⟨rfl, bq⟩
  rw [show decide (s = s) = true from decide_eq_true rfl]
  have H8 := Lib.hid (H7.out.call bq)
  have R8 := Lib.hid (R7.out.on bq)
  clear bq H7 R7
  go_wp2_with (first
      | ((with_reducible refine at_loadg 3 ?_); refine tyKc.wpList_load (by rfl) (.tmp 3) rfl (w.heap.size) (0) rfl (k) (RowC.of_blk (H8.out.at (x := (w.heap.size, 29, (encK k).toArray)) (by simp))) ?_))
  have HH := refHas_any A c l k _ _ (by have := HN.out; omega) (Nat.le_refl _) (R8.out.at (A := A) (c := c) (l := l) (by simp))
  rw [← encK_arr, HKI.out] at HH
  refine (HH).mono ?_
  rintro e w9 ⟨rfl, bq⟩
  have H9 := Lib.hid (H8.out.call bq)
  have R9 := Lib.hid (R8.out.on bq)
  clear bq H8 R8
  go_wp2_with fail
  refine (HF.out A1 none c1 0 s [] _ (R9.out.at (by simp)) (RowIn.nil (Nat.zero_le _)) (by have := HN.out; omega) (by decide)).mono ?_
  rintro e w10 ⟨rfl, bq⟩
  rw [freeN_nil]
  have H10 := Lib.hid (H9.out.call bq)
  have R10 := Lib.hid (R9.out.on bq)
  clear bq H9 R9
  go_wp2_with fail
  go_ret
  exact ⟨rfl, H10.out.below⟩
set_option maxRecDepth 20000 in
set_option maxHeartbeats 4000000 in
theorem nempty_false (HSP : SpendOk) (HUN : UnspendOk) (HFR : FreeOk) (A : Option Addr) (c : Nat) (l : List K32) (k : K32) (w : World) (hl : RowIn encK 32 w w.heap.size A c l) (h1 : l.length ≤ 100) (h2 : decide l.Nodup = true) (h3 : decide (k ∈ l) = false) :
    Calls Try.prog 6 #[.slice A l.length c, .agg (encK k).toArray] w fun e w' => e = .returned (.bool true) ∧ Below w.heap.size w w' := by
  have SH := Lib.hid (fun W => nshown_any HSP W)
  unfold SpendOk at HSP
  unfold UnspendOk at HUN
  unfold FreeOk at HFR
  have HS := Lib.hid HSP
  have HU := Lib.hid HUN
  have HF := Lib.hid HFR
  have hnd := of_decide_eq_true h2
  have hfr : freeN [] l = true := by rw [free_of_nil, h2]
  obtain ⟨s, hs⟩ : ∃ s, addL [] l = s := ⟨_, rfl⟩
  have HX := Lib.hid (show spendN [] l = (s, 0) by unfold spendN; rw [if_pos hfr, hs])
  have hk : k ∈ s ↔ k ∈ l := by rw [← hs, addL_mem]; simp
  have HE := Lib.hid (show undoN s [k] = ([], 3) from by unfold undoN; rw [if_neg (fun h => of_decide_eq_false h3 (hk.1 h))])
  have HB := Lib.hid (show undoN s l = ([], 0) by rw [← hs]; exact spend_undo (s := []) List.Pairwise.nil hfr)
  have HN := Lib.hid (show l.length ≤ 100 ∧ s.length ≤ 100 by have := addL_le l []; rw [hs] at this; simp at this; omega)
  have HKI := Lib.hid h3
  have H0 := Lib.hid ((Holds.nil w).box 29 (encK k).toArray)
  have R0 := Lib.hid (((KRows.nil w).cons hl).on ((Below.refl w.heap.size w).alloc (Nat.le_refl _) (.cells (encK k).toArray 29)))
  have hd : decide ((100 : Int) < (l.length : Int)) = false := by simp; omega
  clear HSP HUN HFR hl h1 h2 h3 hnd hfr hs hk
  go_enter Try.func6, Try.ntmps6
  go_wp2_with fail
  refine (SH.out _).mono ?_
  rintro e w1 ⟨rfl, bq⟩
  have H1 := Lib.hid (H0.out.call bq)
  have R1 := Lib.hid (R0.out.on bq)
  clear bq H0 R0
  go_wp2_with fail
  refine (HS.out none A 0 c [] l _ (RowIn.nil (Nat.zero_le _)) (R1.out.at (by simp)) (by decide) (by have := HN.out; omega)).mono ?_
  rw [HX.out]
  rintro e w2 ⟨A1, c1, rfl, rq, bq⟩
  have H2 := Lib.hid (H1.out.call bq)
  have R2 := Lib.hid ((R1.out.on bq).cons rq)
  clear bq rq H1 R1
  go_wp2_with fail
  refine (HS.out A1 none c1 0 s [] _ (R2.out.at (by simp)) (RowIn.nil (Nat.zero_le _)) (by have := HN.out; omega) (by decide)).mono ?_
  rw [spendN_nil]
  rintro e w3 ⟨A2, c2, rfl, rq, bq⟩
  have H3 := Lib.hid (H2.out.call bq)
  have R3 := Lib.hid ((R2.out.on bq).cons rq)
  clear bq rq H2 R2
  go_wp2_with fail
  refine (HU.out A1 none c1 0 s [] _ (R3.out.at (by simp)) (RowIn.nil (Nat.zero_le _)) (by have := HN.out; omega) (by decide)).mono ?_
  rw [show undoN s [] = (s, 0) from rfl]
  rintro e w4 ⟨A3, c3, rfl, rq, bq⟩
  have H4 := Lib.hid (H3.out.call bq)
  have R4 := Lib.hid ((R3.out.on bq).cons rq)
  clear bq rq H3 R3
  have RK := Lib.hid (R4.out.on ((Below.refl w4.heap.size w4).alloc (Nat.le_refl _) (.cells (cellsOf encK [k]).toArray 29)))
  have HK := Lib.hid (H4.out.box 29 (cellsOf encK [k]).toArray)
  go_wp2_with (first
      | ((with_reducible refine at_load 3 ?_); refine tyKc.wpList_load rfl (.tmp 3) rfl (w.heap.size) (0) rfl (k) (RowC.of_blk (H4.out.at (x := (w.heap.size, 29, (encK k).toArray)) (by simp))) ?_)
      | ((with_reducible refine at_buildSlice 46 ?_); refine tyKy.wpList_build rfl nzsK 1 _ rfl [k] rfl (by omega) (by omega) (by kernel_rfl) ?_))
  clear H4 R4
  refine (HU.out A1 _ c1 1 s [k] _ (RK.out.at (by simp)) (key_row (Blk.new w4 29 _) (by simp) (by decide)) (by have := HN.out; omega) (by simp)).mono ?_
  rw [HE.out]
  rintro e w5 ⟨A4, c4, rfl, _, bq⟩
  have H5 := Lib.hid ((HK.out.call bq).drop)
  have R5 := Lib.hid (RK.out.on bq)
  clear bq HK RK
  go_wp2_with fail
  refine (HU.out A1 A c1 c s l _ (R5.out.at (by simp)) (R5.out.at (by simp)) (by have := HN.out; omega) (by have := HN.out; omega)).mono ?_
  rw [HB.out]
  rintro e w6 ⟨A5, c5, rfl, rq, bq⟩
  have H6 := Lib.hid (H5.out.call bq)
  have R6 := Lib.hid ((R5.out.on bq).cons rq)
  clear bq rq H5 R5
  go_wp2_with fail
  refine (same_any A2 c2 s A1 c1 s _ (by have := HN.out; omega) (by have := HN.out; omega) (R6.out.at (by simp)) (R6.out.at (by simp))).mono ?_
  rintro e w7 ⟨rfl, bq⟩
  rw [show decide (s = s) = true from decide_eq_true rfl]
  have H7 := Lib.hid (H6.out.call bq)
  have R7 := Lib.hid (R6.out.on bq)
  clear bq H6 R6
  go_wp2_with fail
  refine (same_any A3 c3 s A1 c1 s _ (by have := HN.out; omega) (by have := HN.out; omega) (R7.out.at (by simp)) (R7.out.at (by simp))).mono ?_
  rintro e w8 ⟨rfl, bq⟩
  rw [show decide (s = s) = true from decide_eq_true rfl]
  have H8 := Lib.hid (H7.out.call bq)
  have R8 := Lib.hid (R7.out.on bq)
  clear bq H7 R7
  go_wp2_with (first
      | ((with_reducible refine at_loadg 3 ?_); refine tyKc.wpList_load (by rfl) (.tmp 3) rfl (w.heap.size) (0) rfl (k) (RowC.of_blk (H8.out.at (x := (w.heap.size, 29, (encK k).toArray)) (by simp))) ?_))
  have HH := refHas_any A c l k _ _ (by have := HN.out; omega) (Nat.le_refl _) (R8.out.at (A := A) (c := c) (l := l) (by simp))
  rw [← encK_arr, HKI.out] at HH
  refine (HH).mono ?_
  rintro e w9 ⟨rfl, bq⟩
  have H9 := Lib.hid (H8.out.call bq)
  have R9 := Lib.hid (R8.out.on bq)
  clear bq H8 R8
  go_wp2_with fail
  refine (HF.out A1 none c1 0 s [] _ (R9.out.at (by simp)) (RowIn.nil (Nat.zero_le _)) (by have := HN.out; omega) (by decide)).mono ?_
  rintro e w10 ⟨rfl, bq⟩
  rw [freeN_nil]
  have H10 := Lib.hid (H9.out.call bq)
  have R10 := Lib.hid (R9.out.on bq)
  clear bq H9 R9
  go_wp2_with fail
  go_ret
  exact ⟨rfl, H10.out.below⟩
theorem nempty_walk (HSP : SpendOk) (HUN : UnspendOk) (HFR : FreeOk) (A : Option Addr) (c : Nat) (l : List K32) (k : K32) (w : World) (hl : RowIn encK 32 w w.heap.size A c l) :
    Calls Try.prog 6 #[.slice A l.length c, .agg (encK k).toArray] w fun e w' => e = .returned (.bool true) ∧ Below w.heap.size w w' := by
  by_cases h1 : 100 < l.length
  · exact nempty_h1 HSP HUN HFR A c l k w hl h1
  · cases h2 : decide l.Nodup with
    | false => exact nempty_no HSP HUN HFR A c l k w hl (by omega) h2
    | true => cases h3 : decide (k ∈ l) with
      | true => exact nempty_true HSP HUN HFR A c l k w hl (by omega) h2 h3
      | false => exact nempty_false HSP HUN HFR A c l k w hl (by omega) h2 h3
end Go.Proofs.Ytklfbconbkbmpaa
