/- NullsBack: the statement's walk. Written by genLN.py. -/
import Derived.Test.YtklfbconbkbmpaaLNEmpty
namespace Go.Proofs.Ytklfbconbkbmpaa
open Go.RowKit Go.Sort
theorem free_sort (l : List K32) : freeN [] (sortK l) = decide l.Nodup := by
  rw [free_of_nil, decide_eq_decide]
  exact (sortK_perm l).nodup_iff
set_option maxRecDepth 20000 in
set_option maxHeartbeats 4000000 in
theorem nback_h1 (HSP : SpendOk) (_ : UnspendOk) (_ : FreeOk) (A A' : Option Addr) (c c' : Nat) (l m : List K32) (k : K32) (w : World) (hl : RowIn encK 32 w w.heap.size A c l) (hm : RowIn encK 32 w w.heap.size A' c' m) (h1 : 200 < l.length) :
    Calls Try.prog 4 #[.slice A l.length c, .slice A' m.length c', .agg (encK k).toArray] w fun e w' => e = .returned (.bool true) ∧ Below w.heap.size w w' := by
  have SH := Lib.hid (fun W => nshown_any HSP W)
  have H0 := Lib.hid ((Holds.nil w).box 29 (encK k).toArray)
  have R0 := Lib.hid ((((KRows.nil w).cons hm).cons hl).on ((Below.refl w.heap.size w).alloc (Nat.le_refl _) (.cells (encK k).toArray 29)))
  have hd : decide ((200 : Int) < (l.length : Int)) = true := by simp; omega
  clear HSP hl hm h1
  go_enter Try.func4, Try.ntmps4
  go_wp2_with fail
  refine (SH.out _).mono ?_
  rintro e w1 ⟨rfl, bq⟩
  have H1 := Lib.hid (H0.out.call bq)
  have R1 := Lib.hid (R0.out.on bq)
  clear bq H0 R0
  go_wp2_with fail
  go_ret
  exact ⟨rfl, H1.out.below⟩
set_option maxRecDepth 20000 in
set_option maxHeartbeats 4000000 in
theorem nback_h2 (HSP : SpendOk) (_ : UnspendOk) (_ : FreeOk) (A A' : Option Addr) (c c' : Nat) (l m : List K32) (k : K32) (w : World) (hl : RowIn encK 32 w w.heap.size A c l) (hm : RowIn encK 32 w w.heap.size A' c' m) (h1 : l.length ≤ 200) (h2 : 200 < m.length) :
    Calls Try.prog 4 #[.slice A l.length c, .slice A' m.length c', .agg (encK k).toArray] w fun e w' => e = .returned (.bool true) ∧ Below w.heap.size w w' := by
  have SH := Lib.hid (fun W => nshown_any HSP W)
  have H0 := Lib.hid ((Holds.nil w).box 29 (encK k).toArray)
  have R0 := Lib.hid ((((KRows.nil w).cons hm).cons hl).on ((Below.refl w.heap.size w).alloc (Nat.le_refl _) (.cells (encK k).toArray 29)))
  have hd : decide ((200 : Int) < (l.length : Int)) = false := by simp; omega
  have hd2 : decide ((200 : Int) < (m.length : Int)) = true := by simp; omega
  clear HSP hl hm h1 h2
  go_enter Try.func4, Try.ntmps4
  go_wp2_with fail
  refine (SH.out _).mono ?_
  rintro e w1 ⟨rfl, bq⟩
  have H1 := Lib.hid (H0.out.call bq)
  have R1 := Lib.hid (R0.out.on bq)
  clear bq H0 R0
  go_wp2_with fail
  go_ret
  exact ⟨rfl, H1.out.below⟩
set_option maxRecDepth 20000 in
set_option maxHeartbeats 4000000 in
theorem nback_tno (HSP : SpendOk) (_ : UnspendOk) (_ : FreeOk) (A A' : Option Addr) (c c' : Nat) (l m : List K32) (k : K32) (w : World) (hl : RowIn encK 32 w w.heap.size A c l) (hm : RowIn encK 32 w w.heap.size A' c' m) (h1 : l.length ≤ 200) (h2 : m.length ≤ 200) (s : List K32) (hx : spendN [] (sortK l) = (s, 0)) (hq : decide l.Nodup = true) (_ : IsSet s) (hsl : s.length ≤ 200) (hf : freeN s m = false) :
    Calls Try.prog 4 #[.slice A l.length c, .slice A' m.length c', .agg (encK k).toArray] w fun e w' => e = .returned (.bool true) ∧ Below w.heap.size w w' := by
  have SH := Lib.hid (fun W => nshown_any HSP W)
  unfold SpendOk at HSP
  have HS := Lib.hid HSP
  have HN := Lib.hid (show l.length ≤ 200 ∧ m.length ≤ 200 ∧ s.length ≤ 200 from ⟨h1, h2, hsl⟩)
  have HX := Lib.hid hx
  have HD := Lib.hid hq
  have HY := Lib.hid (show spendN s m = ([], 161) by unfold spendN; rw [hf]; rfl)
  have H0 := Lib.hid ((Holds.nil w).box 29 (encK k).toArray)
  have R0 := Lib.hid ((((KRows.nil w).cons hm).cons hl).on ((Below.refl w.heap.size w).alloc (Nat.le_refl _) (.cells (encK k).toArray 29)))
  have hd : decide ((200 : Int) < (l.length : Int)) = false := by simp; omega
  have hd2 : decide ((200 : Int) < (m.length : Int)) = false := by simp; omega
  clear HSP hl hm h1 h2 hx hq hsl hf
  go_enter Try.func4, Try.ntmps4
  go_wp2_with fail
  refine (SH.out _).mono ?_
  rintro e w1 ⟨rfl, bq⟩
  have H1 := Lib.hid (H0.out.call bq)
  have R1 := Lib.hid (R0.out.on bq)
  clear bq H0 R0
  go_wp2_with fail
  refine (refSort_any A c l _ (by have := HN.out; omega) _ (Nat.le_refl _) (R1.out.at (by simp))).mono ?_
  rintro e w2 ⟨v, rfl, pq, bq⟩
  obtain ⟨As, cs, rfl, rq⟩ := RowIn.of_own encK_len pq
  have H2 := Lib.hid (H1.out.call bq)
  have R2 := Lib.hid ((R1.out.on bq).cons rq)
  clear bq rq pq H1 R1
  go_wp2_with fail
  refine (HS.out none As 0 cs [] (sortK l) _ (RowIn.nil (Nat.zero_le _)) (R2.out.at (by simp)) (by decide) (by rw [sortK_len]; have := HN.out; omega)).mono ?_
  rw [HX.out]
  rintro e w3 ⟨A1, c1, rfl, rq, bq⟩
  have H3 := Lib.hid (H2.out.call bq)
  have R3 := Lib.hid ((R2.out.on bq).cons rq)
  clear bq rq H2 R2
  go_wp2_with fail
  refine (refDistinct_any A c l _ (by have := HN.out; omega) _ (Nat.le_refl _) (R3.out.at (by simp))).mono ?_
  rintro e w4 ⟨rfl, bq⟩
  rw [HD.out]
  have H4 := Lib.hid (H3.out.call bq)
  have R4 := Lib.hid (R3.out.on bq)
  clear bq H3 R3
  go_wp2_with fail
  refine (HS.out A1 A' c1 c' s m _ (R4.out.at (by simp)) (R4.out.at (by simp)) (by have := HN.out; omega) (by have := HN.out; omega)).mono ?_
  rw [HY.out]
  rintro e w5 ⟨A2, c2, rfl, rq, bq⟩
  have H5 := Lib.hid (H4.out.call bq)
  have R5 := Lib.hid ((R4.out.on bq).cons rq)
  clear bq rq H4 R4
  go_wp2_with fail
  go_ret
  exact ⟨rfl, H5.out.below⟩
set_option maxRecDepth 20000 in
set_option maxHeartbeats 4000000 in
theorem nback_tes (HSP : SpendOk) (HUN : UnspendOk) (HFR : FreeOk) (A A' : Option Addr) (c c' : Nat) (l m : List K32) (k : K32) (w : World) (hl : RowIn encK 32 w w.heap.size A c l) (hm : RowIn encK 32 w w.heap.size A' c' m) (h1 : l.length ≤ 200) (h2 : m.length ≤ 200) (s : List K32) (hx : spendN [] (sortK l) = (s, 0)) (hq : decide l.Nodup = true) (hset : IsSet s) (hsl : s.length ≤ 200) (hf : freeN s m = true) (hm0 : m.length = 0) (hks : decide (k ∈ s) = true) :
    Calls Try.prog 4 #[.slice A l.length c, .slice A' m.length c', .agg (encK k).toArray] w fun e w' => e = .returned (.bool true) ∧ Below w.heap.size w w' := by
  have SH := Lib.hid (fun W => nshown_any HSP W)
  unfold SpendOk at HSP
  unfold UnspendOk at HUN
  unfold FreeOk at HFR
  have HS := Lib.hid HSP
  have HU := Lib.hid HUN
  have HF := Lib.hid HFR
  have HN := Lib.hid (show l.length ≤ 200 ∧ m.length ≤ 200 ∧ s.length ≤ 200 from ⟨h1, h2, hsl⟩)
  have HX := Lib.hid hx
  have HD := Lib.hid hq
  have HST := Lib.hid hset
  obtain ⟨t, ht⟩ : ∃ t, addL s m = t := ⟨_, rfl⟩
  have htl : t.length = s.length + m.length := by rw [← ht]; exact addL_len m s (freeN_iff.1 hf).2 (freeN_iff.1 hf).1
  have HTL := Lib.hid (show t.length ≤ 400 by omega)
  have HY := Lib.hid (show spendN s m = (t, 0) by unfold spendN; rw [if_pos hf, ht])
  have HB := Lib.hid (show undoN t m = (s, 0) by rw [← ht]; exact spend_undo hset hf)
  have HFK := Lib.hid (show freeN t [k] = false from by
    have hk : k ∈ t ↔ k ∈ s ∨ k ∈ m := by rw [← ht]; exact addL_mem
    have key : freeN t [k] = !decide (k ∈ t) := by
      rw [Bool.eq_iff_iff, freeN_iff, Bool.not_eq_true', decide_eq_false_iff_not]
      simp
    rw [key]
    rw [decide_eq_true (hk.2 (.inl (of_decide_eq_true hks)))]
    rfl)
  have HKS := Lib.hid hks
  have hm1 : ((m.length : Int) == 0) = true := by rw [hm0]; rfl
  have hw1 : IntKind.i64.wrap ((s.length : Int) + (m.length : Int)) = (t.length : Int) := by rw [IntKind.wrap_i64]; omega
  have hw2 : (s.length : Int) + (m.length : Int) = (t.length : Int) := by omega
  have hw3 : IntKind.i64.wrap (t.length : Int) = (t.length : Int) := by rw [IntKind.wrap_i64]; omega
  have H0 := Lib.hid ((Holds.nil w).box 29 (encK k).toArray)
  have R0 := Lib.hid ((((KRows.nil w).cons hm).cons hl).on ((Below.refl w.heap.size w).alloc (Nat.le_refl _) (.cells (encK k).toArray 29)))
  have hd : decide ((200 : Int) < (l.length : Int)) = false := by simp; omega
  have hd2 : decide ((200 : Int) < (m.length : Int)) = false := by simp; omega
  clear HSP HUN HFR hl hm h1 h2 hx hq hsl hf hset htl ht hm0 hks
  go_enter Try.func4, Try.ntmps4
  go_wp2_with fail
  refine (SH.out _).mono ?_
  rintro e w1 ⟨rfl, bq⟩
  have H1 := Lib.hid (H0.out.call bq)
  have R1 := Lib.hid (R0.out.on bq)
  clear bq H0 R0
  go_wp2_with fail
  refine (refSort_any A c l _ (by have := HN.out; omega) _ (Nat.le_refl _) (R1.out.at (by simp))).mono ?_
  rintro e w2 ⟨v, rfl, pq, bq⟩
  obtain ⟨As, cs, rfl, rq⟩ := RowIn.of_own encK_len pq
  have H2 := Lib.hid (H1.out.call bq)
  have R2 := Lib.hid ((R1.out.on bq).cons rq)
  clear bq rq pq H1 R1
  go_wp2_with fail
  refine (HS.out none As 0 cs [] (sortK l) _ (RowIn.nil (Nat.zero_le _)) (R2.out.at (by simp)) (by decide) (by rw [sortK_len]; have := HN.out; omega)).mono ?_
  rw [HX.out]
  rintro e w3 ⟨A1, c1, rfl, rq, bq⟩
  have H3 := Lib.hid (H2.out.call bq)
  have R3 := Lib.hid ((R2.out.on bq).cons rq)
  clear bq rq H2 R2
  go_wp2_with fail
  refine (refDistinct_any A c l _ (by have := HN.out; omega) _ (Nat.le_refl _) (R3.out.at (by simp))).mono ?_
  rintro e w4 ⟨rfl, bq⟩
  rw [HD.out]
  have H4 := Lib.hid (H3.out.call bq)
  have R4 := Lib.hid (R3.out.on bq)
  clear bq H3 R3
  go_wp2_with fail
  refine (HS.out A1 A' c1 c' s m _ (R4.out.at (by simp)) (R4.out.at (by simp)) (by have := HN.out; omega) (by have := HN.out; omega)).mono ?_
  rw [HY.out]
  rintro e w5 ⟨A2, c2, rfl, rq, bq⟩
  have H5 := Lib.hid (H4.out.call bq)
  have R5 := Lib.hid ((R4.out.on bq).cons rq)
  clear bq rq H4 R4
  go_wp2_with fail
  refine (HU.out A2 A' c2 c' t m _ (R5.out.at (by simp)) (R5.out.at (by simp)) (by have := HTL.out; omega) (by have := HN.out; omega)).mono ?_
  rw [HB.out]
  rintro e w6 ⟨A3, c3, rfl, rq, bq⟩
  have H6 := Lib.hid (H5.out.call bq)
  have R6 := Lib.hid ((R5.out.on bq).cons rq)
  clear bq rq H5 R5
  go_wp2_with (first
      | ((with_reducible refine at_load 5 ?_); refine tyKc.wpList_load rfl (.tmp 5) rfl (w.heap.size) (0) rfl (k) (RowC.of_blk (H6.out.at (x := (w.heap.size, 29, (encK k).toArray)) (by simp))) ?_))
  have HH := refHas_any A1 c1 s k _ _ (by have := HN.out; omega) (Nat.le_refl _) (R6.out.at (A := A1) (c := c1) (l := s) (by simp))
  rw [← encK_arr, HKS.out] at HH
  refine (HH).mono ?_
  rintro e w7 ⟨rfl, bq⟩
  have H7 := Lib.hid (H6.out.call bq)
  have R7 := Lib.hid (R6.out.on bq)
  clear bq H6 R6
  go_wp2_with fail
  refine (same_any A3 c3 s A1 c1 s _ (by have := HN.out; omega) (by have := HN.out; omega) (R7.out.at (by simp)) (R7.out.at (by simp))).mono ?_
  rintro e w8 ⟨rfl, bq⟩
  rw [show decide (s = s) = true from decide_eq_true rfl]
  have H8 := Lib.hid (H7.out.call bq)
  have R8 := Lib.hid (R7.out.on bq)
  clear bq H7 R7
  have RK := Lib.hid (R8.out.on ((Below.refl w8.heap.size w8).alloc (Nat.le_refl _) (.cells (cellsOf encK [k]).toArray 29)))
  have HK := Lib.hid (H8.out.box 29 (cellsOf encK [k]).toArray)
  go_wp2_with (first
      | ((with_reducible refine at_loadg 5 ?_); refine tyKc.wpList_load (by rfl) (.tmp 5) rfl (w.heap.size) (0) rfl (k) (RowC.of_blk (H8.out.at (x := (w.heap.size, 29, (encK k).toArray)) (by simp))) ?_)
      | ((with_reducible refine at_buildSlice 79 ?_); refine wpList_unguard (by rfl) ?_; refine tyKy.wpList_build rfl nzsK 1 _ rfl [k] rfl (by omega) (by omega) (by kernel_rfl) ?_))
  clear H8 R8
  refine (HF.out A2 _ c2 1 t [k] _ (RK.out.at (by simp)) (key_row (Blk.new w8 29 _) (by simp) (by decide)) (by have := HTL.out; omega) (by simp)).mono ?_
  rintro e w9 ⟨rfl, bq⟩
  rw [HFK.out]
  have H9 := Lib.hid ((HK.out.call bq).drop)
  have R9 := Lib.hid (RK.out.on bq)
  clear bq HK RK
  go_wp2_with fail
  go_ret
  exact ⟨rfl, H9.out.below⟩
set_option maxRecDepth 20000 in
set_option maxHeartbeats 4000000 in
theorem nback_ten (HSP : SpendOk) (HUN : UnspendOk) (HFR : FreeOk) (A A' : Option Addr) (c c' : Nat) (l m : List K32) (k : K32) (w : World) (hl : RowIn encK 32 w w.heap.size A c l) (hm : RowIn encK 32 w w.heap.size A' c' m) (h1 : l.length ≤ 200) (h2 : m.length ≤ 200) (s : List K32) (hx : spendN [] (sortK l) = (s, 0)) (hq : decide l.Nodup = true) (hset : IsSet s) (hsl : s.length ≤ 200) (hf : freeN s m = true) (hm0 : m.length = 0) (hks : decide (k ∈ s) = false) (hkm : decide (k ∈ m) = false) :
    Calls Try.prog 4 #[.slice A l.length c, .slice A' m.length c', .agg (encK k).toArray] w fun e w' => e = .returned (.bool true) ∧ Below w.heap.size w w' := by
  have SH := Lib.hid (fun W => nshown_any HSP W)
  unfold SpendOk at HSP
  unfold UnspendOk at HUN
  unfold FreeOk at HFR
  have HS := Lib.hid HSP
  have HU := Lib.hid HUN
  have HF := Lib.hid HFR
  have HN := Lib.hid (show l.length ≤ 200 ∧ m.length ≤ 200 ∧ s.length ≤ 200 from ⟨h1, h2, hsl⟩)
  have HX := Lib.hid hx
  have HD := Lib.hid hq
  have HST := Lib.hid hset
  obtain ⟨t, ht⟩ : ∃ t, addL s m = t := ⟨_, rfl⟩
  have htl : t.length = s.length + m.length := by rw [← ht]; exact addL_len m s (freeN_iff.1 hf).2 (freeN_iff.1 hf).1
  have HTL := Lib.hid (show t.length ≤ 400 by omega)
  have HY := Lib.hid (show spendN s m = (t, 0) by unfold spendN; rw [if_pos hf, ht])
  have HB := Lib.hid (show undoN t m = (s, 0) by rw [← ht]; exact spend_undo hset hf)
  have HFK := Lib.hid (show freeN t [k] = true from by
    have hk : k ∈ t ↔ k ∈ s ∨ k ∈ m := by rw [← ht]; exact addL_mem
    have key : freeN t [k] = !decide (k ∈ t) := by
      rw [Bool.eq_iff_iff, freeN_iff, Bool.not_eq_true', decide_eq_false_iff_not]
      simp
    rw [key]
    rw [decide_eq_false (fun h => (hk.1 h).elim (of_decide_eq_false hks) (of_decide_eq_false hkm))]
    rfl)
  have HKS := Lib.hid hks
  have HKM := Lib.hid hkm
  have hm1 : ((m.length : Int) == 0) = true := by rw [hm0]; rfl
  have hw1 : IntKind.i64.wrap ((s.length : Int) + (m.length : Int)) = (t.length : Int) := by rw [IntKind.wrap_i64]; omega
  have hw2 : (s.length : Int) + (m.length : Int) = (t.length : Int) := by omega
  have hw3 : IntKind.i64.wrap (t.length : Int) = (t.length : Int) := by rw [IntKind.wrap_i64]; omega
  have H0 := Lib.hid ((Holds.nil w).box 29 (encK k).toArray)
  have R0 := Lib.hid ((((KRows.nil w).cons hm).cons hl).on ((Below.refl w.heap.size w).alloc (Nat.le_refl _) (.cells (encK k).toArray 29)))
  have hd : decide ((200 : Int) < (l.length : Int)) = false := by simp; omega
  have hd2 : decide ((200 : Int) < (m.length : Int)) = false := by simp; omega
  clear HSP HUN HFR hl hm h1 h2 hx hq hsl hf hset htl ht hm0 hks hkm
  go_enter Try.func4, Try.ntmps4
  go_wp2_with fail
  refine (SH.out _).mono ?_
  rintro e w1 ⟨rfl, bq⟩
  have H1 := Lib.hid (H0.out.call bq)
  have R1 := Lib.hid (R0.out.on bq)
  clear bq H0 R0
  go_wp2_with fail
  refine (refSort_any A c l _ (by have := HN.out; omega) _ (Nat.le_refl _) (R1.out.at (by simp))).mono ?_
  rintro e w2 ⟨v, rfl, pq, bq⟩
  obtain ⟨As, cs, rfl, rq⟩ := RowIn.of_own encK_len pq
  have H2 := Lib.hid (H1.out.call bq)
  have R2 := Lib.hid ((R1.out.on bq).cons rq)
  clear bq rq pq H1 R1
  go_wp2_with fail
  refine (HS.out none As 0 cs [] (sortK l) _ (RowIn.nil (Nat.zero_le _)) (R2.out.at (by simp)) (by decide) (by rw [sortK_len]; have := HN.out; omega)).mono ?_
  rw [HX.out]
  rintro e w3 ⟨A1, c1, rfl, rq, bq⟩
  have H3 := Lib.hid (H2.out.call bq)
  have R3 := Lib.hid ((R2.out.on bq).cons rq)
  clear bq rq H2 R2
  go_wp2_with fail
  refine (refDistinct_any A c l _ (by have := HN.out; omega) _ (Nat.le_refl _) (R3.out.at (by simp))).mono ?_
  rintro e w4 ⟨rfl, bq⟩
  rw [HD.out]
  have H4 := Lib.hid (H3.out.call bq)
  have R4 := Lib.hid (R3.out.on bq)
  clear bq H3 R3
  go_wp2_with fail
  refine (HS.out A1 A' c1 c' s m _ (R4.out.at (by simp)) (R4.out.at (by simp)) (by have := HN.out; omega) (by have := HN.out; omega)).mono ?_
  rw [HY.out]
  rintro e w5 ⟨A2, c2, rfl, rq, bq⟩
  have H5 := Lib.hid (H4.out.call bq)
  have R5 := Lib.hid ((R4.out.on bq).cons rq)
  clear bq rq H4 R4
  go_wp2_with fail
  refine (HU.out A2 A' c2 c' t m _ (R5.out.at (by simp)) (R5.out.at (by simp)) (by have := HTL.out; omega) (by have := HN.out; omega)).mono ?_
  rw [HB.out]
  rintro e w6 ⟨A3, c3, rfl, rq, bq⟩
  have H6 := Lib.hid (H5.out.call bq)
  have R6 := Lib.hid ((R5.out.on bq).cons rq)
  clear bq rq H5 R5
  go_wp2_with (first
      | ((with_reducible refine at_load 5 ?_); refine tyKc.wpList_load rfl (.tmp 5) rfl (w.heap.size) (0) rfl (k) (RowC.of_blk (H6.out.at (x := (w.heap.size, 29, (encK k).toArray)) (by simp))) ?_))
  have HH := refHas_any A1 c1 s k _ _ (by have := HN.out; omega) (Nat.le_refl _) (R6.out.at (A := A1) (c := c1) (l := s) (by simp))
  rw [← encK_arr, HKS.out] at HH
  refine (HH).mono ?_
  rintro e w7 ⟨rfl, bq⟩
  have H7 := Lib.hid (H6.out.call bq)
  have R7 := Lib.hid (R6.out.on bq)
  clear bq H6 R6
  go_wp2_with (first
      | ((with_reducible refine at_loadg 5 ?_); refine tyKc.wpList_load (by rfl) (.tmp 5) rfl (w.heap.size) (0) rfl (k) (RowC.of_blk (H7.out.at (x := (w.heap.size, 29, (encK k).toArray)) (by simp))) ?_))
  have HH2 := refHas_any A' c' m k _ _ (by have := HN.out; omega) (Nat.le_refl _) (R7.out.at (A := A') (c := c') (l := m) (by simp))
  rw [← encK_arr, HKM.out] at HH2
  refine (HH2).mono ?_
  rintro e w8 ⟨rfl, bq⟩
  have H8 := Lib.hid (H7.out.call bq)
  have R8 := Lib.hid (R7.out.on bq)
  clear bq H7 R7
  go_wp2_with fail
  refine (same_any A3 c3 s A1 c1 s _ (by have := HN.out; omega) (by have := HN.out; omega) (R8.out.at (by simp)) (R8.out.at (by simp))).mono ?_
  rintro e w9 ⟨rfl, bq⟩
  rw [show decide (s = s) = true from decide_eq_true rfl]
  have H9 := Lib.hid (H8.out.call bq)
  have R9 := Lib.hid (R8.out.on bq)
  clear bq H8 R8
  have RK := Lib.hid (R9.out.on ((Below.refl w9.heap.size w9).alloc (Nat.le_refl _) (.cells (cellsOf encK [k]).toArray 29)))
  have HK := Lib.hid (H9.out.box 29 (cellsOf encK [k]).toArray)
  go_wp2_with (first
      | ((with_reducible refine at_loadg 5 ?_); refine tyKc.wpList_load (by rfl) (.tmp 5) rfl (w.heap.size) (0) rfl (k) (RowC.of_blk (H9.out.at (x := (w.heap.size, 29, (encK k).toArray)) (by simp))) ?_)
      | ((with_reducible refine at_buildSlice 79 ?_); refine wpList_unguard (by rfl) ?_; refine tyKy.wpList_build rfl nzsK 1 _ rfl [k] rfl (by omega) (by omega) (by kernel_rfl) ?_))
  clear H9 R9
  refine (HF.out A2 _ c2 1 t [k] _ (RK.out.at (by simp)) (key_row (Blk.new w9 29 _) (by simp) (by decide)) (by have := HTL.out; omega) (by simp)).mono ?_
  rintro e w10 ⟨rfl, bq⟩
  rw [HFK.out]
  have H10 := Lib.hid ((HK.out.call bq).drop)
  have R10 := Lib.hid (RK.out.on bq)
  clear bq HK RK
  go_wp2_with fail
  go_ret
  exact ⟨rfl, H10.out.below⟩
set_option maxRecDepth 20000 in
set_option maxHeartbeats 4000000 in
theorem nback_tys (HSP : SpendOk) (HUN : UnspendOk) (HFR : FreeOk) (A A' : Option Addr) (c c' : Nat) (l m : List K32) (k : K32) (w : World) (hl : RowIn encK 32 w w.heap.size A c l) (hm : RowIn encK 32 w w.heap.size A' c' m) (h1 : l.length ≤ 200) (h2 : m.length ≤ 200) (s : List K32) (hx : spendN [] (sortK l) = (s, 0)) (hq : decide l.Nodup = true) (hset : IsSet s) (hsl : s.length ≤ 200) (hf : freeN s m = true) (hm0 : 0 < m.length) (hks : decide (k ∈ s) = true) :
    Calls Try.prog 4 #[.slice A l.length c, .slice A' m.length c', .agg (encK k).toArray] w fun e w' => e = .returned (.bool true) ∧ Below w.heap.size w w' := by
  have SH := Lib.hid (fun W => nshown_any HSP W)
  unfold SpendOk at HSP
  unfold UnspendOk at HUN
  unfold FreeOk at HFR
  have HS := Lib.hid HSP
  have HU := Lib.hid HUN
  have HF := Lib.hid HFR
  have HN := Lib.hid (show l.length ≤ 200 ∧ m.length ≤ 200 ∧ s.length ≤ 200 from ⟨h1, h2, hsl⟩)
  have HX := Lib.hid hx
  have HD := Lib.hid hq
  have HST := Lib.hid hset
  obtain ⟨t, ht⟩ : ∃ t, addL s m = t := ⟨_, rfl⟩
  have htl : t.length = s.length + m.length := by rw [← ht]; exact addL_len m s (freeN_iff.1 hf).2 (freeN_iff.1 hf).1
  have HTL := Lib.hid (show t.length ≤ 400 by omega)
  have HY := Lib.hid (show spendN s m = (t, 0) by unfold spendN; rw [if_pos hf, ht])
  have HB := Lib.hid (show undoN t m = (s, 0) by rw [← ht]; exact spend_undo hset hf)
  have HFK := Lib.hid (show freeN t [k] = false from by
    have hk : k ∈ t ↔ k ∈ s ∨ k ∈ m := by rw [← ht]; exact addL_mem
    have key : freeN t [k] = !decide (k ∈ t) := by
      rw [Bool.eq_iff_iff, freeN_iff, Bool.not_eq_true', decide_eq_false_iff_not]
      simp
    rw [key]
    rw [decide_eq_true (hk.2 (.inl (of_decide_eq_true hks)))]
    rfl)
  have HKS := Lib.hid hks
  have hm1 : ((m.length : Int) == 0) = false := beq_eq_false_iff_ne.mpr (by omega)
  have HFM := Lib.hid (show freeN t m = false from by
    cases hfm : freeN t m with
    | false => rfl
    | true =>
      obtain ⟨y, hy⟩ := List.exists_mem_of_length_pos hm0
      exact absurd (by rw [← ht]; exact addL_mem.2 (.inr hy)) ((freeN_iff.1 hfm).1 y hy))
  have hw1 : IntKind.i64.wrap ((s.length : Int) + (m.length : Int)) = (t.length : Int) := by rw [IntKind.wrap_i64]; omega
  have hw2 : (s.length : Int) + (m.length : Int) = (t.length : Int) := by omega
  have hw3 : IntKind.i64.wrap (t.length : Int) = (t.length : Int) := by rw [IntKind.wrap_i64]; omega
  have H0 := Lib.hid ((Holds.nil w).box 29 (encK k).toArray)
  have R0 := Lib.hid ((((KRows.nil w).cons hm).cons hl).on ((Below.refl w.heap.size w).alloc (Nat.le_refl _) (.cells (encK k).toArray 29)))
  have hd : decide ((200 : Int) < (l.length : Int)) = false := by simp; omega
  have hd2 : decide ((200 : Int) < (m.length : Int)) = false := by simp; omega
  clear HSP HUN HFR hl hm h1 h2 hx hq hsl hf hset htl ht hm0 hks
  go_enter Try.func4, Try.ntmps4
  go_wp2_with fail
  refine (SH.out _).mono ?_
  rintro e w1 ⟨rfl, bq⟩
  have H1 := Lib.hid (H0.out.call bq)
  have R1 := Lib.hid (R0.out.on bq)
  clear bq H0 R0
  go_wp2_with fail
  refine (refSort_any A c l _ (by have := HN.out; omega) _ (Nat.le_refl _) (R1.out.at (by simp))).mono ?_
  rintro e w2 ⟨v, rfl, pq, bq⟩
  obtain ⟨As, cs, rfl, rq⟩ := RowIn.of_own encK_len pq
  have H2 := Lib.hid (H1.out.call bq)
  have R2 := Lib.hid ((R1.out.on bq).cons rq)
  clear bq rq pq H1 R1
  go_wp2_with fail
  refine (HS.out none As 0 cs [] (sortK l) _ (RowIn.nil (Nat.zero_le _)) (R2.out.at (by simp)) (by decide) (by rw [sortK_len]; have := HN.out; omega)).mono ?_
  rw [HX.out]
  rintro e w3 ⟨A1, c1, rfl, rq, bq⟩
  have H3 := Lib.hid (H2.out.call bq)
  have R3 := Lib.hid ((R2.out.on bq).cons rq)
  clear bq rq H2 R2
  go_wp2_with fail
  refine (refDistinct_any A c l _ (by have := HN.out; omega) _ (Nat.le_refl _) (R3.out.at (by simp))).mono ?_
  rintro e w4 ⟨rfl, bq⟩
  rw [HD.out]
  have H4 := Lib.hid (H3.out.call bq)
  have R4 := Lib.hid (R3.out.on bq)
  clear bq H3 R3
  go_wp2_with fail
  refine (HS.out A1 A' c1 c' s m _ (R4.out.at (by simp)) (R4.out.at (by simp)) (by have := HN.out; omega) (by have := HN.out; omega)).mono ?_
  rw [HY.out]
  rintro e w5 ⟨A2, c2, rfl, rq, bq⟩
  have H5 := Lib.hid (H4.out.call bq)
  have R5 := Lib.hid ((R4.out.on bq).cons rq)
  clear bq rq H4 R4
  go_wp2_with fail
  refine (HU.out A2 A' c2 c' t m _ (R5.out.at (by simp)) (R5.out.at (by simp)) (by have := HTL.out; omega) (by have := HN.out; omega)).mono ?_
  rw [HB.out]
  rintro e w6 ⟨A3, c3, rfl, rq, bq⟩
  have H6 := Lib.hid (H5.out.call bq)
  have R6 := Lib.hid ((R5.out.on bq).cons rq)
  clear bq rq H5 R5
  go_wp2_with (first
      | ((with_reducible refine at_load 5 ?_); refine tyKc.wpList_load rfl (.tmp 5) rfl (w.heap.size) (0) rfl (k) (RowC.of_blk (H6.out.at (x := (w.heap.size, 29, (encK k).toArray)) (by simp))) ?_))
  have HH := refHas_any A1 c1 s k _ _ (by have := HN.out; omega) (Nat.le_refl _) (R6.out.at (A := A1) (c := c1) (l := s) (by simp))
  rw [← encK_arr, HKS.out] at HH
  refine (HH).mono ?_
  rintro e w7 ⟨rfl, bq⟩
  have H7 := Lib.hid (H6.out.call bq)
  have R7 := Lib.hid (R6.out.on bq)
  clear bq H6 R6
  go_wp2_with fail
  refine (same_any A3 c3 s A1 c1 s _ (by have := HN.out; omega) (by have := HN.out; omega) (R7.out.at (by simp)) (R7.out.at (by simp))).mono ?_
  rintro e w8 ⟨rfl, bq⟩
  rw [show decide (s = s) = true from decide_eq_true rfl]
  have H8 := Lib.hid (H7.out.call bq)
  have R8 := Lib.hid (R7.out.on bq)
  clear bq H7 R7
  have RK := Lib.hid (R8.out.on ((Below.refl w8.heap.size w8).alloc (Nat.le_refl _) (.cells (cellsOf encK [k]).toArray 29)))
  have HK := Lib.hid (H8.out.box 29 (cellsOf encK [k]).toArray)
  go_wp2_with (first
      | ((with_reducible refine at_loadg 5 ?_); refine tyKc.wpList_load (by rfl) (.tmp 5) rfl (w.heap.size) (0) rfl (k) (RowC.of_blk (H8.out.at (x := (w.heap.size, 29, (encK k).toArray)) (by simp))) ?_)
      | ((with_reducible refine at_buildSlice 79 ?_); refine wpList_unguard (by rfl) ?_; refine tyKy.wpList_build rfl nzsK 1 _ rfl [k] rfl (by omega) (by omega) (by kernel_rfl) ?_))
  clear H8 R8
  refine (HF.out A2 _ c2 1 t [k] _ (RK.out.at (by simp)) (key_row (Blk.new w8 29 _) (by simp) (by decide)) (by have := HTL.out; omega) (by simp)).mono ?_
  rintro e w9 ⟨rfl, bq⟩
  rw [HFK.out]
  have H9 := Lib.hid ((HK.out.call bq).drop)
  have R9 := Lib.hid (RK.out.on bq)
  clear bq HK RK
  go_wp2_with fail
  refine (HF.out A2 A' c2 c' t m _ (R9.out.at (by simp)) (R9.out.at (by simp)) (by have := HTL.out; omega) (by have := HN.out; omega)).mono ?_
  rintro e w10 ⟨rfl, bq⟩
  rw [HFM.out]
  have H10 := Lib.hid (H9.out.call bq)
  have R10 := Lib.hid (R9.out.on bq)
  clear bq H9 R9
  go_wp2_with fail
  go_ret
  exact ⟨rfl, H10.out.below⟩
set_option maxRecDepth 20000 in
set_option maxHeartbeats 4000000 in
theorem nback_tym (HSP : SpendOk) (HUN : UnspendOk) (HFR : FreeOk) (A A' : Option Addr) (c c' : Nat) (l m : List K32) (k : K32) (w : World) (hl : RowIn encK 32 w w.heap.size A c l) (hm : RowIn encK 32 w w.heap.size A' c' m) (h1 : l.length ≤ 200) (h2 : m.length ≤ 200) (s : List K32) (hx : spendN [] (sortK l) = (s, 0)) (hq : decide l.Nodup = true) (hset : IsSet s) (hsl : s.length ≤ 200) (hf : freeN s m = true) (hm0 : 0 < m.length) (hks : decide (k ∈ s) = false) (hkm : decide (k ∈ m) = true) :
    Calls Try.prog 4 #[.slice A l.length c, .slice A' m.length c', .agg (encK k).toArray] w fun e w' => e = .returned (.bool true) ∧ Below w.heap.size w w' := by
  have SH := Lib.hid (fun W => nshown_any HSP W)
  unfold SpendOk at HSP
  unfold UnspendOk at HUN
  unfold FreeOk at HFR
  have HS := Lib.hid HSP
  have HU := Lib.hid HUN
  have HF := Lib.hid HFR
  have HN := Lib.hid (show l.length ≤ 200 ∧ m.length ≤ 200 ∧ s.length ≤ 200 from ⟨h1, h2, hsl⟩)
  have HX := Lib.hid hx
  have HD := Lib.hid hq
  have HST := Lib.hid hset
  obtain ⟨t, ht⟩ : ∃ t, addL s m = t := ⟨_, rfl⟩
  have htl : t.length = s.length + m.length := by rw [← ht]; exact addL_len m s (freeN_iff.1 hf).2 (freeN_iff.1 hf).1
  have HTL := Lib.hid (show t.length ≤ 400 by omega)
  have HY := Lib.hid (show spendN s m = (t, 0) by unfold spendN; rw [if_pos hf, ht])
  have HB := Lib.hid (show undoN t m = (s, 0) by rw [← ht]; exact spend_undo hset hf)
  have HFK := Lib.hid (show freeN t [k] = false from by
    have hk : k ∈ t ↔ k ∈ s ∨ k ∈ m := by rw [← ht]; exact addL_mem
    have key : freeN t [k] = !decide (k ∈ t) := by
      rw [Bool.eq_iff_iff, freeN_iff, Bool.not_eq_true', decide_eq_false_iff_not]
      simp
    rw [key]
    rw [decide_eq_true (hk.2 (.inr (of_decide_eq_true hkm)))]
    rfl)
  have HKS := Lib.hid hks
  have HKM := Lib.hid hkm
  have hm1 : ((m.length : Int) == 0) = false := beq_eq_false_iff_ne.mpr (by omega)
  have HFM := Lib.hid (show freeN t m = false from by
    cases hfm : freeN t m with
    | false => rfl
    | true =>
      obtain ⟨y, hy⟩ := List.exists_mem_of_length_pos hm0
      exact absurd (by rw [← ht]; exact addL_mem.2 (.inr hy)) ((freeN_iff.1 hfm).1 y hy))
  have hw1 : IntKind.i64.wrap ((s.length : Int) + (m.length : Int)) = (t.length : Int) := by rw [IntKind.wrap_i64]; omega
  have hw2 : (s.length : Int) + (m.length : Int) = (t.length : Int) := by omega
  have hw3 : IntKind.i64.wrap (t.length : Int) = (t.length : Int) := by rw [IntKind.wrap_i64]; omega
  have H0 := Lib.hid ((Holds.nil w).box 29 (encK k).toArray)
  have R0 := Lib.hid ((((KRows.nil w).cons hm).cons hl).on ((Below.refl w.heap.size w).alloc (Nat.le_refl _) (.cells (encK k).toArray 29)))
  have hd : decide ((200 : Int) < (l.length : Int)) = false := by simp; omega
  have hd2 : decide ((200 : Int) < (m.length : Int)) = false := by simp; omega
  clear HSP HUN HFR hl hm h1 h2 hx hq hsl hf hset htl ht hm0 hks hkm
  go_enter Try.func4, Try.ntmps4
  go_wp2_with fail
  refine (SH.out _).mono ?_
  rintro e w1 ⟨rfl, bq⟩
  have H1 := Lib.hid (H0.out.call bq)
  have R1 := Lib.hid (R0.out.on bq)
  clear bq H0 R0
  go_wp2_with fail
  refine (refSort_any A c l _ (by have := HN.out; omega) _ (Nat.le_refl _) (R1.out.at (by simp))).mono ?_
  rintro e w2 ⟨v, rfl, pq, bq⟩
  obtain ⟨As, cs, rfl, rq⟩ := RowIn.of_own encK_len pq
  have H2 := Lib.hid (H1.out.call bq)
  have R2 := Lib.hid ((R1.out.on bq).cons rq)
  clear bq rq pq H1 R1
  go_wp2_with fail
  refine (HS.out none As 0 cs [] (sortK l) _ (RowIn.nil (Nat.zero_le _)) (R2.out.at (by simp)) (by decide) (by rw [sortK_len]; have := HN.out; omega)).mono ?_
  rw [HX.out]
  rintro e w3 ⟨A1, c1, rfl, rq, bq⟩
  have H3 := Lib.hid (H2.out.call bq)
  have R3 := Lib.hid ((R2.out.on bq).cons rq)
  clear bq rq H2 R2
  go_wp2_with fail
  refine (refDistinct_any A c l _ (by have := HN.out; omega) _ (Nat.le_refl _) (R3.out.at (by simp))).mono ?_
  rintro e w4 ⟨rfl, bq⟩
  rw [HD.out]
  have H4 := Lib.hid (H3.out.call bq)
  have R4 := Lib.hid (R3.out.on bq)
  clear bq H3 R3
  go_wp2_with fail
  refine (HS.out A1 A' c1 c' s m _ (R4.out.at (by simp)) (R4.out.at (by simp)) (by have := HN.out; omega) (by have := HN.out; omega)).mono ?_
  rw [HY.out]
  rintro e w5 ⟨A2, c2, rfl, rq, bq⟩
  have H5 := Lib.hid (H4.out.call bq)
  have R5 := Lib.hid ((R4.out.on bq).cons rq)
  clear bq rq H4 R4
  go_wp2_with fail
  refine (HU.out A2 A' c2 c' t m _ (R5.out.at (by simp)) (R5.out.at (by simp)) (by have := HTL.out; omega) (by have := HN.out; omega)).mono ?_
  rw [HB.out]
  rintro e w6 ⟨A3, c3, rfl, rq, bq⟩
  have H6 := Lib.hid (H5.out.call bq)
  have R6 := Lib.hid ((R5.out.on bq).cons rq)
  clear bq rq H5 R5
  go_wp2_with (first
      | ((with_reducible refine at_load 5 ?_); refine tyKc.wpList_load rfl (.tmp 5) rfl (w.heap.size) (0) rfl (k) (RowC.of_blk (H6.out.at (x := (w.heap.size, 29, (encK k).toArray)) (by simp))) ?_))
  have HH := refHas_any A1 c1 s k _ _ (by have := HN.out; omega) (Nat.le_refl _) (R6.out.at (A := A1) (c := c1) (l := s) (by simp))
  rw [← encK_arr, HKS.out] at HH
  refine (HH).mono ?_
  rintro e w7 ⟨rfl, bq⟩
  have H7 := Lib.hid (H6.out.call bq)
  have R7 := Lib.hid (R6.out.on bq)
  clear bq H6 R6
  go_wp2_with (first
      | ((with_reducible refine at_loadg 5 ?_); refine tyKc.wpList_load (by rfl) (.tmp 5) rfl (w.heap.size) (0) rfl (k) (RowC.of_blk (H7.out.at (x := (w.heap.size, 29, (encK k).toArray)) (by simp))) ?_))
  have HH2 := refHas_any A' c' m k _ _ (by have := HN.out; omega) (Nat.le_refl _) (R7.out.at (A := A') (c := c') (l := m) (by simp))
  rw [← encK_arr, HKM.out] at HH2
  refine (HH2).mono ?_
  rintro e w8 ⟨rfl, bq⟩
  have H8 := Lib.hid (H7.out.call bq)
  have R8 := Lib.hid (R7.out.on bq)
  clear bq H7 R7
  go_wp2_with fail
  refine (same_any A3 c3 s A1 c1 s _ (by have := HN.out; omega) (by have := HN.out; omega) (R8.out.at (by simp)) (R8.out.at (by simp))).mono ?_
  rintro e w9 ⟨rfl, bq⟩
  rw [show decide (s = s) = true from decide_eq_true rfl]
  have H9 := Lib.hid (H8.out.call bq)
  have R9 := Lib.hid (R8.out.on bq)
  clear bq H8 R8
  have RK := Lib.hid (R9.out.on ((Below.refl w9.heap.size w9).alloc (Nat.le_refl _) (.cells (cellsOf encK [k]).toArray 29)))
  have HK := Lib.hid (H9.out.box 29 (cellsOf encK [k]).toArray)
  go_wp2_with (first
      | ((with_reducible refine at_loadg 5 ?_); refine tyKc.wpList_load (by rfl) (.tmp 5) rfl (w.heap.size) (0) rfl (k) (RowC.of_blk (H9.out.at (x := (w.heap.size, 29, (encK k).toArray)) (by simp))) ?_)
      | ((with_reducible refine at_buildSlice 79 ?_); refine wpList_unguard (by rfl) ?_; refine tyKy.wpList_build rfl nzsK 1 _ rfl [k] rfl (by omega) (by omega) (by kernel_rfl) ?_))
  clear H9 R9
  refine (HF.out A2 _ c2 1 t [k] _ (RK.out.at (by simp)) (key_row (Blk.new w9 29 _) (by simp) (by decide)) (by have := HTL.out; omega) (by simp)).mono ?_
  rintro e w10 ⟨rfl, bq⟩
  rw [HFK.out]
  have H10 := Lib.hid ((HK.out.call bq).drop)
  have R10 := Lib.hid (RK.out.on bq)
  clear bq HK RK
  go_wp2_with fail
  refine (HF.out A2 A' c2 c' t m _ (R10.out.at (by simp)) (R10.out.at (by simp)) (by have := HTL.out; omega) (by have := HN.out; omega)).mono ?_
  rintro e w11 ⟨rfl, bq⟩
  rw [HFM.out]
  have H11 := Lib.hid (H10.out.call bq)
  have R11 := Lib.hid (R10.out.on bq)
  clear bq H10 R10
  go_wp2_with fail
  go_ret
  exact ⟨rfl, H11.out.below⟩
set_option maxRecDepth 20000 in
set_option maxHeartbeats 4000000 in
theorem nback_tyn (HSP : SpendOk) (HUN : UnspendOk) (HFR : FreeOk) (A A' : Option Addr) (c c' : Nat) (l m : List K32) (k : K32) (w : World) (hl : RowIn encK 32 w w.heap.size A c l) (hm : RowIn encK 32 w w.heap.size A' c' m) (h1 : l.length ≤ 200) (h2 : m.length ≤ 200) (s : List K32) (hx : spendN [] (sortK l) = (s, 0)) (hq : decide l.Nodup = true) (hset : IsSet s) (hsl : s.length ≤ 200) (hf : freeN s m = true) (hm0 : 0 < m.length) (hks : decide (k ∈ s) = false) (hkm : decide (k ∈ m) = false) :
    Calls Try.prog 4 #[.slice A l.length c, .slice A' m.length c', .agg (encK k).toArray] w fun e w' => e = .returned (.bool true) ∧ Below w.heap.size w w' := by
  have SH := Lib.hid (fun W => nshown_any HSP W)
  unfold SpendOk at HSP
  unfold UnspendOk at HUN
  unfold FreeOk at HFR
  have HS := Lib.hid HSP
  have HU := Lib.hid HUN
  have HF := Lib.hid HFR
  have HN := Lib.hid (show l.length ≤ 200 ∧ m.length ≤ 200 ∧ s.length ≤ 200 from ⟨h1, h2, hsl⟩)
  have HX := Lib.hid hx
  have HD := Lib.hid hq
  have HST := Lib.hid hset
  obtain ⟨t, ht⟩ : ∃ t, addL s m = t := ⟨_, rfl⟩
  have htl : t.length = s.length + m.length := by rw [← ht]; exact addL_len m s (freeN_iff.1 hf).2 (freeN_iff.1 hf).1
  have HTL := Lib.hid (show t.length ≤ 400 by omega)
  have HY := Lib.hid (show spendN s m = (t, 0) by unfold spendN; rw [if_pos hf, ht])
  have HB := Lib.hid (show undoN t m = (s, 0) by rw [← ht]; exact spend_undo hset hf)
  have HFK := Lib.hid (show freeN t [k] = true from by
    have hk : k ∈ t ↔ k ∈ s ∨ k ∈ m := by rw [← ht]; exact addL_mem
    have key : freeN t [k] = !decide (k ∈ t) := by
      rw [Bool.eq_iff_iff, freeN_iff, Bool.not_eq_true', decide_eq_false_iff_not]
      simp
    rw [key]
    rw [decide_eq_false (fun h => (hk.1 h).elim (of_decide_eq_false hks) (of_decide_eq_false hkm))]
    rfl)
  have HKS := Lib.hid hks
  have HKM := Lib.hid hkm
  have hm1 : ((m.length : Int) == 0) = false := beq_eq_false_iff_ne.mpr (by omega)
  have HFM := Lib.hid (show freeN t m = false from by
    cases hfm : freeN t m with
    | false => rfl
    | true =>
      obtain ⟨y, hy⟩ := List.exists_mem_of_length_pos hm0
      exact absurd (by rw [← ht]; exact addL_mem.2 (.inr hy)) ((freeN_iff.1 hfm).1 y hy))
  have hw1 : IntKind.i64.wrap ((s.length : Int) + (m.length : Int)) = (t.length : Int) := by rw [IntKind.wrap_i64]; omega
  have hw2 : (s.length : Int) + (m.length : Int) = (t.length : Int) := by omega
  have hw3 : IntKind.i64.wrap (t.length : Int) = (t.length : Int) := by rw [IntKind.wrap_i64]; omega
  have H0 := Lib.hid ((Holds.nil w).box 29 (encK k).toArray)
  have R0 := Lib.hid ((((KRows.nil w).cons hm).cons hl).on ((Below.refl w.heap.size w).alloc (Nat.le_refl _) (.cells (encK k).toArray 29)))
  have hd : decide ((200 : Int) < (l.length : Int)) = false := by simp; omega
  have hd2 : decide ((200 : Int) < (m.length : Int)) = false := by simp; omega
  clear HSP HUN HFR hl hm h1 h2 hx hq hsl hf hset htl ht hm0 hks hkm
  go_enter Try.func4, Try.ntmps4
  go_wp2_with fail
  refine (SH.out _).mono ?_
  rintro e w1 ⟨rfl, bq⟩
  have H1 := Lib.hid (H0.out.call bq)
  have R1 := Lib.hid (R0.out.on bq)
  clear bq H0 R0
  go_wp2_with fail
  refine (refSort_any A c l _ (by have := HN.out; omega) _ (Nat.le_refl _) (R1.out.at (by simp))).mono ?_
  rintro e w2 ⟨v, rfl, pq, bq⟩
  obtain ⟨As, cs, rfl, rq⟩ := RowIn.of_own encK_len pq
  have H2 := Lib.hid (H1.out.call bq)
  have R2 := Lib.hid ((R1.out.on bq).cons rq)
  clear bq rq pq H1 R1
  go_wp2_with fail
  refine (HS.out none As 0 cs [] (sortK l) _ (RowIn.nil (Nat.zero_le _)) (R2.out.at (by simp)) (by decide) (by rw [sortK_len]; have := HN.out; omega)).mono ?_
  rw [HX.out]
  rintro e w3 ⟨A1, c1, rfl, rq, bq⟩
  have H3 := Lib.hid (H2.out.call bq)
  have R3 := Lib.hid ((R2.out.on bq).cons rq)
  clear bq rq H2 R2
  go_wp2_with fail
  refine (refDistinct_any A c l _ (by have := HN.out; omega) _ (Nat.le_refl _) (R3.out.at (by simp))).mono ?_
  rintro e w4 ⟨rfl, bq⟩
  rw [HD.out]
  have H4 := Lib.hid (H3.out.call bq)
  have R4 := Lib.hid (R3.out.on bq)
  clear bq H3 R3
  go_wp2_with fail
  refine (HS.out A1 A' c1 c' s m _ (R4.out.at (by simp)) (R4.out.at (by simp)) (by have := HN.out; omega) (by have := HN.out; omega)).mono ?_
  rw [HY.out]
  rintro e w5 ⟨A2, c2, rfl, rq, bq⟩
  have H5 := Lib.hid (H4.out.call bq)
  have R5 := Lib.hid ((R4.out.on bq).cons rq)
  clear bq rq H4 R4
  go_wp2_with fail
  refine (HU.out A2 A' c2 c' t m _ (R5.out.at (by simp)) (R5.out.at (by simp)) (by have := HTL.out; omega) (by have := HN.out; omega)).mono ?_
  rw [HB.out]
  rintro e w6 ⟨A3, c3, rfl, rq, bq⟩
  have H6 := Lib.hid (H5.out.call bq)
  have R6 := Lib.hid ((R5.out.on bq).cons rq)
  clear bq rq H5 R5
  go_wp2_with (first
      | ((with_reducible refine at_load 5 ?_); refine tyKc.wpList_load rfl (.tmp 5) rfl (w.heap.size) (0) rfl (k) (RowC.of_blk (H6.out.at (x := (w.heap.size, 29, (encK k).toArray)) (by simp))) ?_))
  have HH := refHas_any A1 c1 s k _ _ (by have := HN.out; omega) (Nat.le_refl _) (R6.out.at (A := A1) (c := c1) (l := s) (by simp))
  rw [← encK_arr, HKS.out] at HH
  refine (HH).mono ?_
  rintro e w7 ⟨rfl, bq⟩
  have H7 := Lib.hid (H6.out.call bq)
  have R7 := Lib.hid (R6.out.on bq)
  clear bq H6 R6
  go_wp2_with (first
      | ((with_reducible refine at_loadg 5 ?_); refine tyKc.wpList_load (by rfl) (.tmp 5) rfl (w.heap.size) (0) rfl (k) (RowC.of_blk (H7.out.at (x := (w.heap.size, 29, (encK k).toArray)) (by simp))) ?_))
  have HH2 := refHas_any A' c' m k _ _ (by have := HN.out; omega) (Nat.le_refl _) (R7.out.at (A := A') (c := c') (l := m) (by simp))
  rw [← encK_arr, HKM.out] at HH2
  refine (HH2).mono ?_
  rintro e w8 ⟨rfl, bq⟩
  have H8 := Lib.hid (H7.out.call bq)
  have R8 := Lib.hid (R7.out.on bq)
  clear bq H7 R7
  go_wp2_with fail
  refine (same_any A3 c3 s A1 c1 s _ (by have := HN.out; omega) (by have := HN.out; omega) (R8.out.at (by simp)) (R8.out.at (by simp))).mono ?_
  rintro e w9 ⟨rfl, bq⟩
  rw [show decide (s = s) = true from decide_eq_true rfl]
  have H9 := Lib.hid (H8.out.call bq)
  have R9 := Lib.hid (R8.out.on bq)
  clear bq H8 R8
  have RK := Lib.hid (R9.out.on ((Below.refl w9.heap.size w9).alloc (Nat.le_refl _) (.cells (cellsOf encK [k]).toArray 29)))
  have HK := Lib.hid (H9.out.box 29 (cellsOf encK [k]).toArray)
  go_wp2_with (first
      | ((with_reducible refine at_loadg 5 ?_); refine tyKc.wpList_load (by rfl) (.tmp 5) rfl (w.heap.size) (0) rfl (k) (RowC.of_blk (H9.out.at (x := (w.heap.size, 29, (encK k).toArray)) (by simp))) ?_)
      | ((with_reducible refine at_buildSlice 79 ?_); refine wpList_unguard (by rfl) ?_; refine tyKy.wpList_build rfl nzsK 1 _ rfl [k] rfl (by omega) (by omega) (by kernel_rfl) ?_))
  clear H9 R9
  refine (HF.out A2 _ c2 1 t [k] _ (RK.out.at (by simp)) (key_row (Blk.new w9 29 _) (by simp) (by decide)) (by have := HTL.out; omega) (by simp)).mono ?_
  rintro e w10 ⟨rfl, bq⟩
  rw [HFK.out]
  have H10 := Lib.hid ((HK.out.call bq).drop)
  have R10 := Lib.hid (RK.out.on bq)
  clear bq HK RK
  go_wp2_with fail
  refine (HF.out A2 A' c2 c' t m _ (R10.out.at (by simp)) (R10.out.at (by simp)) (by have := HTL.out; omega) (by have := HN.out; omega)).mono ?_
  rintro e w11 ⟨rfl, bq⟩
  rw [HFM.out]
  have H11 := Lib.hid (H10.out.call bq)
  have R11 := Lib.hid (R10.out.on bq)
  clear bq H10 R10
  go_wp2_with fail
  go_ret
  exact ⟨rfl, H11.out.below⟩
set_option maxRecDepth 20000 in
set_option maxHeartbeats 4000000 in
theorem nback_fno (HSP : SpendOk) (_ : UnspendOk) (_ : FreeOk) (A A' : Option Addr) (c c' : Nat) (l m : List K32) (k : K32) (w : World) (hl : RowIn encK 32 w w.heap.size A c l) (hm : RowIn encK 32 w w.heap.size A' c' m) (h1 : l.length ≤ 200) (h2 : m.length ≤ 200) (s : List K32) (hx : spendN [] (sortK l) = (s, 161)) (hq : decide l.Nodup = false) (_ : IsSet s) (hsl : s.length ≤ 200) (hf : freeN s m = false) :
    Calls Try.prog 4 #[.slice A l.length c, .slice A' m.length c', .agg (encK k).toArray] w fun e w' => e = .returned (.bool true) ∧ Below w.heap.size w w' := by
  have SH := Lib.hid (fun W => nshown_any HSP W)
  unfold SpendOk at HSP
  have HS := Lib.hid HSP
  have HN := Lib.hid (show l.length ≤ 200 ∧ m.length ≤ 200 ∧ s.length ≤ 200 from ⟨h1, h2, hsl⟩)
  have HX := Lib.hid hx
  have HD := Lib.hid hq
  have HY := Lib.hid (show spendN s m = ([], 161) by unfold spendN; rw [hf]; rfl)
  have H0 := Lib.hid ((Holds.nil w).box 29 (encK k).toArray)
  have R0 := Lib.hid ((((KRows.nil w).cons hm).cons hl).on ((Below.refl w.heap.size w).alloc (Nat.le_refl _) (.cells (encK k).toArray 29)))
  have hd : decide ((200 : Int) < (l.length : Int)) = false := by simp; omega
  have hd2 : decide ((200 : Int) < (m.length : Int)) = false := by simp; omega
  clear HSP hl hm h1 h2 hx hq hsl hf
  go_enter Try.func4, Try.ntmps4
  go_wp2_with fail
  refine (SH.out _).mono ?_
  rintro e w1 ⟨rfl, bq⟩
  have H1 := Lib.hid (H0.out.call bq)
  have R1 := Lib.hid (R0.out.on bq)
  clear bq H0 R0
  go_wp2_with fail
  refine (refSort_any A c l _ (by have := HN.out; omega) _ (Nat.le_refl _) (R1.out.at (by simp))).mono ?_
  rintro e w2 ⟨v, rfl, pq, bq⟩
  obtain ⟨As, cs, rfl, rq⟩ := RowIn.of_own encK_len pq
  have H2 := Lib.hid (H1.out.call bq)
  have R2 := Lib.hid ((R1.out.on bq).cons rq)
  clear bq rq pq H1 R1
  go_wp2_with fail
  refine (HS.out none As 0 cs [] (sortK l) _ (RowIn.nil (Nat.zero_le _)) (R2.out.at (by simp)) (by decide) (by rw [sortK_len]; have := HN.out; omega)).mono ?_
  rw [HX.out]
  rintro e w3 ⟨A1, c1, rfl, rq, bq⟩
  have H3 := Lib.hid (H2.out.call bq)
  have R3 := Lib.hid ((R2.out.on bq).cons rq)
  clear bq rq H2 R2
  go_wp2_with fail
  refine (refDistinct_any A c l _ (by have := HN.out; omega) _ (Nat.le_refl _) (R3.out.at (by simp))).mono ?_
  rintro e w4 ⟨rfl, bq⟩
  rw [HD.out]
  have H4 := Lib.hid (H3.out.call bq)
  have R4 := Lib.hid (R3.out.on bq)
  clear bq H3 R3
  go_wp2_with fail
  refine (HS.out A1 A' c1 c' s m _ (R4.out.at (by simp)) (R4.out.at (by simp)) (by have := HN.out; omega) (by have := HN.out; omega)).mono ?_
  rw [HY.out]
  rintro e w5 ⟨A2, c2, rfl, rq, bq⟩
  have H5 := Lib.hid (H4.out.call bq)
  have R5 := Lib.hid ((R4.out.on bq).cons rq)
  clear bq rq H4 R4
  go_wp2_with fail
  go_ret
  exact ⟨rfl, H5.out.below⟩
set_option maxRecDepth 20000 in
set_option maxHeartbeats 4000000 in
theorem nback_fes (HSP : SpendOk) (HUN : UnspendOk) (HFR : FreeOk) (A A' : Option Addr) (c c' : Nat) (l m : List K32) (k : K32) (w : World) (hl : RowIn encK 32 w w.heap.size A c l) (hm : RowIn encK 32 w w.heap.size A' c' m) (h1 : l.length ≤ 200) (h2 : m.length ≤ 200) (s : List K32) (hx : spendN [] (sortK l) = (s, 161)) (hq : decide l.Nodup = false) (hset : IsSet s) (hsl : s.length ≤ 200) (hf : freeN s m = true) (hm0 : m.length = 0) (hks : decide (k ∈ s) = true) :
    Calls Try.prog 4 #[.slice A l.length c, .slice A' m.length c', .agg (encK k).toArray] w fun e w' => e = .returned (.bool true) ∧ Below w.heap.size w w' := by
  have SH := Lib.hid (fun W => nshown_any HSP W)
  unfold SpendOk at HSP
  unfold UnspendOk at HUN
  unfold FreeOk at HFR
  have HS := Lib.hid HSP
  have HU := Lib.hid HUN
  have HF := Lib.hid HFR
  have HN := Lib.hid (show l.length ≤ 200 ∧ m.length ≤ 200 ∧ s.length ≤ 200 from ⟨h1, h2, hsl⟩)
  have HX := Lib.hid hx
  have HD := Lib.hid hq
  have HST := Lib.hid hset
  obtain ⟨t, ht⟩ : ∃ t, addL s m = t := ⟨_, rfl⟩
  have htl : t.length = s.length + m.length := by rw [← ht]; exact addL_len m s (freeN_iff.1 hf).2 (freeN_iff.1 hf).1
  have HTL := Lib.hid (show t.length ≤ 400 by omega)
  have HY := Lib.hid (show spendN s m = (t, 0) by unfold spendN; rw [if_pos hf, ht])
  have HB := Lib.hid (show undoN t m = (s, 0) by rw [← ht]; exact spend_undo hset hf)
  have HFK := Lib.hid (show freeN t [k] = false from by
    have hk : k ∈ t ↔ k ∈ s ∨ k ∈ m := by rw [← ht]; exact addL_mem
    have key : freeN t [k] = !decide (k ∈ t) := by
      rw [Bool.eq_iff_iff, freeN_iff, Bool.not_eq_true', decide_eq_false_iff_not]
      simp
    rw [key]
    rw [decide_eq_true (hk.2 (.inl (of_decide_eq_true hks)))]
    rfl)
  have HKS := Lib.hid hks
  have hm1 : ((m.length : Int) == 0) = true := by rw [hm0]; rfl
  have hw1 : IntKind.i64.wrap ((s.length : Int) + (m.length : Int)) = (t.length : Int) := by rw [IntKind.wrap_i64]; omega
  have hw2 : (s.length : Int) + (m.length : Int) = (t.length : Int) := by omega
  have hw3 : IntKind.i64.wrap (t.length : Int) = (t.length : Int) := by rw [IntKind.wrap_i64]; omega
  have H0 := Lib.hid ((Holds.nil w).box 29 (encK k).toArray)
  have R0 := Lib.hid ((((KRows.nil w).cons hm).cons hl).on ((Below.refl w.heap.size w).alloc (Nat.le_refl _) (.cells (encK k).toArray 29)))
  have hd : decide ((200 : Int) < (l.length : Int)) = false := by simp; omega
  have hd2 : decide ((200 : Int) < (m.length : Int)) = false := by simp; omega
  clear HSP HUN HFR hl hm h1 h2 hx hq hsl hf hset htl ht hm0 hks
  go_enter Try.func4, Try.ntmps4
  go_wp2_with fail
  refine (SH.out _).mono ?_
  rintro e w1 ⟨rfl, bq⟩
  have H1 := Lib.hid (H0.out.call bq)
  have R1 := Lib.hid (R0.out.on bq)
  clear bq H0 R0
  go_wp2_with fail
  refine (refSort_any A c l _ (by have := HN.out; omega) _ (Nat.le_refl _) (R1.out.at (by simp))).mono ?_
  rintro e w2 ⟨v, rfl, pq, bq⟩
  obtain ⟨As, cs, rfl, rq⟩ := RowIn.of_own encK_len pq
  have H2 := Lib.hid (H1.out.call bq)
  have R2 := Lib.hid ((R1.out.on bq).cons rq)
  clear bq rq pq H1 R1
  go_wp2_with fail
  refine (HS.out none As 0 cs [] (sortK l) _ (RowIn.nil (Nat.zero_le _)) (R2.out.at (by simp)) (by decide) (by rw [sortK_len]; have := HN.out; omega)).mono ?_
  rw [HX.out]
  rintro e w3 ⟨A1, c1, rfl, rq, bq⟩
  have H3 := Lib.hid (H2.out.call bq)
  have R3 := Lib.hid ((R2.out.on bq).cons rq)
  clear bq rq H2 R2
  go_wp2_with fail
  refine (refDistinct_any A c l _ (by have := HN.out; omega) _ (Nat.le_refl _) (R3.out.at (by simp))).mono ?_
  rintro e w4 ⟨rfl, bq⟩
  rw [HD.out]
  have H4 := Lib.hid (H3.out.call bq)
  have R4 := Lib.hid (R3.out.on bq)
  clear bq H3 R3
  go_wp2_with fail
  refine (HS.out A1 A' c1 c' s m _ (R4.out.at (by simp)) (R4.out.at (by simp)) (by have := HN.out; omega) (by have := HN.out; omega)).mono ?_
  rw [HY.out]
  rintro e w5 ⟨A2, c2, rfl, rq, bq⟩
  have H5 := Lib.hid (H4.out.call bq)
  have R5 := Lib.hid ((R4.out.on bq).cons rq)
  clear bq rq H4 R4
  go_wp2_with fail
  refine (HU.out A2 A' c2 c' t m _ (R5.out.at (by simp)) (R5.out.at (by simp)) (by have := HTL.out; omega) (by have := HN.out; omega)).mono ?_
  rw [HB.out]
  rintro e w6 ⟨A3, c3, rfl, rq, bq⟩
  have H6 := Lib.hid (H5.out.call bq)
  have R6 := Lib.hid ((R5.out.on bq).cons rq)
  clear bq rq H5 R5
  go_wp2_with (first
      | ((with_reducible refine at_load 5 ?_); refine tyKc.wpList_load rfl (.tmp 5) rfl (w.heap.size) (0) rfl (k) (RowC.of_blk (H6.out.at (x := (w.heap.size, 29, (encK k).toArray)) (by simp))) ?_))
  have HH := refHas_any A1 c1 s k _ _ (by have := HN.out; omega) (Nat.le_refl _) (R6.out.at (A := A1) (c := c1) (l := s) (by simp))
  rw [← encK_arr, HKS.out] at HH
  refine (HH).mono ?_
  rintro e w7 ⟨rfl, bq⟩
  have H7 := Lib.hid (H6.out.call bq)
  have R7 := Lib.hid (R6.out.on bq)
  clear bq H6 R6
  go_wp2_with fail
  refine (same_any A3 c3 s A1 c1 s _ (by have := HN.out; omega) (by have := HN.out; omega) (R7.out.at (by simp)) (R7.out.at (by simp))).mono ?_
  rintro e w8 ⟨rfl, bq⟩
  rw [show decide (s = s) = true from decide_eq_true rfl]
  have H8 := Lib.hid (H7.out.call bq)
  have R8 := Lib.hid (R7.out.on bq)
  clear bq H7 R7
  have RK := Lib.hid (R8.out.on ((Below.refl w8.heap.size w8).alloc (Nat.le_refl _) (.cells (cellsOf encK [k]).toArray 29)))
  have HK := Lib.hid (H8.out.box 29 (cellsOf encK [k]).toArray)
  go_wp2_with (first
      | ((with_reducible refine at_loadg 5 ?_); refine tyKc.wpList_load (by rfl) (.tmp 5) rfl (w.heap.size) (0) rfl (k) (RowC.of_blk (H8.out.at (x := (w.heap.size, 29, (encK k).toArray)) (by simp))) ?_)
      | ((with_reducible refine at_buildSlice 79 ?_); refine wpList_unguard (by rfl) ?_; refine tyKy.wpList_build rfl nzsK 1 _ rfl [k] rfl (by omega) (by omega) (by kernel_rfl) ?_))
  clear H8 R8
  refine (HF.out A2 _ c2 1 t [k] _ (RK.out.at (by simp)) (key_row (Blk.new w8 29 _) (by simp) (by decide)) (by have := HTL.out; omega) (by simp)).mono ?_
  rintro e w9 ⟨rfl, bq⟩
  rw [HFK.out]
  have H9 := Lib.hid ((HK.out.call bq).drop)
  have R9 := Lib.hid (RK.out.on bq)
  clear bq HK RK
  go_wp2_with fail
  go_ret
  exact ⟨rfl, H9.out.below⟩
set_option maxRecDepth 20000 in
set_option maxHeartbeats 4000000 in
theorem nback_fen (HSP : SpendOk) (HUN : UnspendOk) (HFR : FreeOk) (A A' : Option Addr) (c c' : Nat) (l m : List K32) (k : K32) (w : World) (hl : RowIn encK 32 w w.heap.size A c l) (hm : RowIn encK 32 w w.heap.size A' c' m) (h1 : l.length ≤ 200) (h2 : m.length ≤ 200) (s : List K32) (hx : spendN [] (sortK l) = (s, 161)) (hq : decide l.Nodup = false) (hset : IsSet s) (hsl : s.length ≤ 200) (hf : freeN s m = true) (hm0 : m.length = 0) (hks : decide (k ∈ s) = false) (hkm : decide (k ∈ m) = false) :
    Calls Try.prog 4 #[.slice A l.length c, .slice A' m.length c', .agg (encK k).toArray] w fun e w' => e = .returned (.bool true) ∧ Below w.heap.size w w' := by
  have SH := Lib.hid (fun W => nshown_any HSP W)
  unfold SpendOk at HSP
  unfold UnspendOk at HUN
  unfold FreeOk at HFR
  have HS := Lib.hid HSP
  have HU := Lib.hid HUN
  have HF := Lib.hid HFR
  have HN := Lib.hid (show l.length ≤ 200 ∧ m.length ≤ 200 ∧ s.length ≤ 200 from ⟨h1, h2, hsl⟩)
  have HX := Lib.hid hx
  have HD := Lib.hid hq
  have HST := Lib.hid hset
  obtain ⟨t, ht⟩ : ∃ t, addL s m = t := ⟨_, rfl⟩
  have htl : t.length = s.length + m.length := by rw [← ht]; exact addL_len m s (freeN_iff.1 hf).2 (freeN_iff.1 hf).1
  have HTL := Lib.hid (show t.length ≤ 400 by omega)
  have HY := Lib.hid (show spendN s m = (t, 0) by unfold spendN; rw [if_pos hf, ht])
  have HB := Lib.hid (show undoN t m = (s, 0) by rw [← ht]; exact spend_undo hset hf)
  have HFK := Lib.hid (show freeN t [k] = true from by
    have hk : k ∈ t ↔ k ∈ s ∨ k ∈ m := by rw [← ht]; exact addL_mem
    have key : freeN t [k] = !decide (k ∈ t) := by
      rw [Bool.eq_iff_iff, freeN_iff, Bool.not_eq_true', decide_eq_false_iff_not]
      simp
    rw [key]
    rw [decide_eq_false (fun h => (hk.1 h).elim (of_decide_eq_false hks) (of_decide_eq_false hkm))]
    rfl)
  have HKS := Lib.hid hks
  have HKM := Lib.hid hkm
  have hm1 : ((m.length : Int) == 0) = true := by rw [hm0]; rfl
  have hw1 : IntKind.i64.wrap ((s.length : Int) + (m.length : Int)) = (t.length : Int) := by rw [IntKind.wrap_i64]; omega
  have hw2 : (s.length : Int) + (m.length : Int) = (t.length : Int) := by omega
  have hw3 : IntKind.i64.wrap (t.length : Int) = (t.length : Int) := by rw [IntKind.wrap_i64]; omega
  have H0 := Lib.hid ((Holds.nil w).box 29 (encK k).toArray)
  have R0 := Lib.hid ((((KRows.nil w).cons hm).cons hl).on ((Below.refl w.heap.size w).alloc (Nat.le_refl _) (.cells (encK k).toArray 29)))
  have hd : decide ((200 : Int) < (l.length : Int)) = false := by simp; omega
  have hd2 : decide ((200 : Int) < (m.length : Int)) = false := by simp; omega
  clear HSP HUN HFR hl hm h1 h2 hx hq hsl hf hset htl ht hm0 hks hkm
  go_enter Try.func4, Try.ntmps4
  go_wp2_with fail
  refine (SH.out _).mono ?_
  rintro e w1 ⟨rfl, bq⟩
  have H1 := Lib.hid (H0.out.call bq)
  have R1 := Lib.hid (R0.out.on bq)
  clear bq H0 R0
  go_wp2_with fail
  refine (refSort_any A c l _ (by have := HN.out; omega) _ (Nat.le_refl _) (R1.out.at (by simp))).mono ?_
  rintro e w2 ⟨v, rfl, pq, bq⟩
  obtain ⟨As, cs, rfl, rq⟩ := RowIn.of_own encK_len pq
  have H2 := Lib.hid (H1.out.call bq)
  have R2 := Lib.hid ((R1.out.on bq).cons rq)
  clear bq rq pq H1 R1
  go_wp2_with fail
  refine (HS.out none As 0 cs [] (sortK l) _ (RowIn.nil (Nat.zero_le _)) (R2.out.at (by simp)) (by decide) (by rw [sortK_len]; have := HN.out; omega)).mono ?_
  rw [HX.out]
  rintro e w3 ⟨A1, c1, rfl, rq, bq⟩
  have H3 := Lib.hid (H2.out.call bq)
  have R3 := Lib.hid ((R2.out.on bq).cons rq)
  clear bq rq H2 R2
  go_wp2_with fail
  refine (refDistinct_any A c l _ (by have := HN.out; omega) _ (Nat.le_refl _) (R3.out.at (by simp))).mono ?_
  rintro e w4 ⟨rfl, bq⟩
  rw [HD.out]
  have H4 := Lib.hid (H3.out.call bq)
  have R4 := Lib.hid (R3.out.on bq)
  clear bq H3 R3
  go_wp2_with fail
  refine (HS.out A1 A' c1 c' s m _ (R4.out.at (by simp)) (R4.out.at (by simp)) (by have := HN.out; omega) (by have := HN.out; omega)).mono ?_
  rw [HY.out]
  rintro e w5 ⟨A2, c2, rfl, rq, bq⟩
  have H5 := Lib.hid (H4.out.call bq)
  have R5 := Lib.hid ((R4.out.on bq).cons rq)
  clear bq rq H4 R4
  go_wp2_with fail
  refine (HU.out A2 A' c2 c' t m _ (R5.out.at (by simp)) (R5.out.at (by simp)) (by have := HTL.out; omega) (by have := HN.out; omega)).mono ?_
  rw [HB.out]
  rintro e w6 ⟨A3, c3, rfl, rq, bq⟩
  have H6 := Lib.hid (H5.out.call bq)
  have R6 := Lib.hid ((R5.out.on bq).cons rq)
  clear bq rq H5 R5
  go_wp2_with (first
      | ((with_reducible refine at_load 5 ?_); refine tyKc.wpList_load rfl (.tmp 5) rfl (w.heap.size) (0) rfl (k) (RowC.of_blk (H6.out.at (x := (w.heap.size, 29, (encK k).toArray)) (by simp))) ?_))
  have HH := refHas_any A1 c1 s k _ _ (by have := HN.out; omega) (Nat.le_refl _) (R6.out.at (A := A1) (c := c1) (l := s) (by simp))
  rw [← encK_arr, HKS.out] at HH
  refine (HH).mono ?_
  rintro e w7 ⟨rfl, bq⟩
  have H7 := Lib.hid (H6.out.call bq)
  have R7 := Lib.hid (R6.out.on bq)
  clear bq H6 R6
  go_wp2_with (first
      | ((with_reducible refine at_loadg 5 ?_); refine tyKc.wpList_load (by rfl) (.tmp 5) rfl (w.heap.size) (0) rfl (k) (RowC.of_blk (H7.out.at (x := (w.heap.size, 29, (encK k).toArray)) (by simp))) ?_))
  have HH2 := refHas_any A' c' m k _ _ (by have := HN.out; omega) (Nat.le_refl _) (R7.out.at (A := A') (c := c') (l := m) (by simp))
  rw [← encK_arr, HKM.out] at HH2
  refine (HH2).mono ?_
  rintro e w8 ⟨rfl, bq⟩
  have H8 := Lib.hid (H7.out.call bq)
  have R8 := Lib.hid (R7.out.on bq)
  clear bq H7 R7
  go_wp2_with fail
  refine (same_any A3 c3 s A1 c1 s _ (by have := HN.out; omega) (by have := HN.out; omega) (R8.out.at (by simp)) (R8.out.at (by simp))).mono ?_
  rintro e w9 ⟨rfl, bq⟩
  rw [show decide (s = s) = true from decide_eq_true rfl]
  have H9 := Lib.hid (H8.out.call bq)
  have R9 := Lib.hid (R8.out.on bq)
  clear bq H8 R8
  have RK := Lib.hid (R9.out.on ((Below.refl w9.heap.size w9).alloc (Nat.le_refl _) (.cells (cellsOf encK [k]).toArray 29)))
  have HK := Lib.hid (H9.out.box 29 (cellsOf encK [k]).toArray)
  go_wp2_with (first
      | ((with_reducible refine at_loadg 5 ?_); refine tyKc.wpList_load (by rfl) (.tmp 5) rfl (w.heap.size) (0) rfl (k) (RowC.of_blk (H9.out.at (x := (w.heap.size, 29, (encK k).toArray)) (by simp))) ?_)
      | ((with_reducible refine at_buildSlice 79 ?_); refine wpList_unguard (by rfl) ?_; refine tyKy.wpList_build rfl nzsK 1 _ rfl [k] rfl (by omega) (by omega) (by kernel_rfl) ?_))
  clear H9 R9
  refine (HF.out A2 _ c2 1 t [k] _ (RK.out.at (by simp)) (key_row (Blk.new w9 29 _) (by simp) (by decide)) (by have := HTL.out; omega) (by simp)).mono ?_
  rintro e w10 ⟨rfl, bq⟩
  rw [HFK.out]
  have H10 := Lib.hid ((HK.out.call bq).drop)
  have R10 := Lib.hid (RK.out.on bq)
  clear bq HK RK
  go_wp2_with fail
  go_ret
  exact ⟨rfl, H10.out.below⟩
set_option maxRecDepth 20000 in
set_option maxHeartbeats 4000000 in
theorem nback_fys (HSP : SpendOk) (HUN : UnspendOk) (HFR : FreeOk) (A A' : Option Addr) (c c' : Nat) (l m : List K32) (k : K32) (w : World) (hl : RowIn encK 32 w w.heap.size A c l) (hm : RowIn encK 32 w w.heap.size A' c' m) (h1 : l.length ≤ 200) (h2 : m.length ≤ 200) (s : List K32) (hx : spendN [] (sortK l) = (s, 161)) (hq : decide l.Nodup = false) (hset : IsSet s) (hsl : s.length ≤ 200) (hf : freeN s m = true) (hm0 : 0 < m.length) (hks : decide (k ∈ s) = true) :
    Calls Try.prog 4 #[.slice A l.length c, .slice A' m.length c', .agg (encK k).toArray] w fun e w' => e = .returned (.bool true) ∧ Below w.heap.size w w' := by
  have SH := Lib.hid (fun W => nshown_any HSP W)
  unfold SpendOk at HSP
  unfold UnspendOk at HUN
  unfold FreeOk at HFR
  have HS := Lib.hid HSP
  have HU := Lib.hid HUN
  have HF := Lib.hid HFR
  have HN := Lib.hid (show l.length ≤ 200 ∧ m.length ≤ 200 ∧ s.length ≤ 200 from ⟨h1, h2, hsl⟩)
  have HX := Lib.hid hx
  have HD := Lib.hid hq
  have HST := Lib.hid hset
  obtain ⟨t, ht⟩ : ∃ t, addL s m = t := ⟨_, rfl⟩
  have htl : t.length = s.length + m.length := by rw [← ht]; exact addL_len m s (freeN_iff.1 hf).2 (freeN_iff.1 hf).1
  have HTL := Lib.hid (show t.length ≤ 400 by omega)
  have HY := Lib.hid (show spendN s m = (t, 0) by unfold spendN; rw [if_pos hf, ht])
  have HB := Lib.hid (show undoN t m = (s, 0) by rw [← ht]; exact spend_undo hset hf)
  have HFK := Lib.hid (show freeN t [k] = false from by
    have hk : k ∈ t ↔ k ∈ s ∨ k ∈ m := by rw [← ht]; exact addL_mem
    have key : freeN t [k] = !decide (k ∈ t) := by
      rw [Bool.eq_iff_iff, freeN_iff, Bool.not_eq_true', decide_eq_false_iff_not]
      simp
    rw [key]
    rw [decide_eq_true (hk.2 (.inl (of_decide_eq_true hks)))]
    rfl)
  have HKS := Lib.hid hks
  have hm1 : ((m.length : Int) == 0) = false := beq_eq_false_iff_ne.mpr (by omega)
  have HFM := Lib.hid (show freeN t m = false from by
    cases hfm : freeN t m with
    | false => rfl
    | true =>
      obtain ⟨y, hy⟩ := List.exists_mem_of_length_pos hm0
      exact absurd (by rw [← ht]; exact addL_mem.2 (.inr hy)) ((freeN_iff.1 hfm).1 y hy))
  have hw1 : IntKind.i64.wrap ((s.length : Int) + (m.length : Int)) = (t.length : Int) := by rw [IntKind.wrap_i64]; omega
  have hw2 : (s.length : Int) + (m.length : Int) = (t.length : Int) := by omega
  have hw3 : IntKind.i64.wrap (t.length : Int) = (t.length : Int) := by rw [IntKind.wrap_i64]; omega
  have H0 := Lib.hid ((Holds.nil w).box 29 (encK k).toArray)
  have R0 := Lib.hid ((((KRows.nil w).cons hm).cons hl).on ((Below.refl w.heap.size w).alloc (Nat.le_refl _) (.cells (encK k).toArray 29)))
  have hd : decide ((200 : Int) < (l.length : Int)) = false := by simp; omega
  have hd2 : decide ((200 : Int) < (m.length : Int)) = false := by simp; omega
  clear HSP HUN HFR hl hm h1 h2 hx hq hsl hf hset htl ht hm0 hks
  go_enter Try.func4, Try.ntmps4
  go_wp2_with fail
  refine (SH.out _).mono ?_
  rintro e w1 ⟨rfl, bq⟩
  have H1 := Lib.hid (H0.out.call bq)
  have R1 := Lib.hid (R0.out.on bq)
  clear bq H0 R0
  go_wp2_with fail
  refine (refSort_any A c l _ (by have := HN.out; omega) _ (Nat.le_refl _) (R1.out.at (by simp))).mono ?_
  rintro e w2 ⟨v, rfl, pq, bq⟩
  obtain ⟨As, cs, rfl, rq⟩ := RowIn.of_own encK_len pq
  have H2 := Lib.hid (H1.out.call bq)
  have R2 := Lib.hid ((R1.out.on bq).cons rq)
  clear bq rq pq H1 R1
  go_wp2_with fail
  refine (HS.out none As 0 cs [] (sortK l) _ (RowIn.nil (Nat.zero_le _)) (R2.out.at (by simp)) (by decide) (by rw [sortK_len]; have := HN.out; omega)).mono ?_
  rw [HX.out]
  rintro e w3 ⟨A1, c1, rfl, rq, bq⟩
  have H3 := Lib.hid (H2.out.call bq)
  have R3 := Lib.hid ((R2.out.on bq).cons rq)
  clear bq rq H2 R2
  go_wp2_with fail
  refine (refDistinct_any A c l _ (by have := HN.out; omega) _ (Nat.le_refl _) (R3.out.at (by simp))).mono ?_
  rintro e w4 ⟨rfl, bq⟩
  rw [HD.out]
  have H4 := Lib.hid (H3.out.call bq)
  have R4 := Lib.hid (R3.out.on bq)
  clear bq H3 R3
  go_wp2_with fail
  refine (HS.out A1 A' c1 c' s m _ (R4.out.at (by simp)) (R4.out.at (by simp)) (by have := HN.out; omega) (by have := HN.out; omega)).mono ?_
  rw [HY.out]
  rintro e w5 ⟨A2, c2, rfl, rq, bq⟩
  have H5 := Lib.hid (H4.out.call bq)
  have R5 := Lib.hid ((R4.out.on bq).cons rq)
  clear bq rq H4 R4
  go_wp2_with fail
  refine (HU.out A2 A' c2 c' t m _ (R5.out.at (by simp)) (R5.out.at (by simp)) (by have := HTL.out; omega) (by have := HN.out; omega)).mono ?_
  rw [HB.out]
  rintro e w6 ⟨A3, c3, rfl, rq, bq⟩
  have H6 := Lib.hid (H5.out.call bq)
  have R6 := Lib.hid ((R5.out.on bq).cons rq)
  clear bq rq H5 R5
  go_wp2_with (first
      | ((with_reducible refine at_load 5 ?_); refine tyKc.wpList_load rfl (.tmp 5) rfl (w.heap.size) (0) rfl (k) (RowC.of_blk (H6.out.at (x := (w.heap.size, 29, (encK k).toArray)) (by simp))) ?_))
  have HH := refHas_any A1 c1 s k _ _ (by have := HN.out; omega) (Nat.le_refl _) (R6.out.at (A := A1) (c := c1) (l := s) (by simp))
  rw [← encK_arr, HKS.out] at HH
  refine (HH).mono ?_
  rintro e w7 ⟨rfl, bq⟩
  have H7 := Lib.hid (H6.out.call bq)
  have R7 := Lib.hid (R6.out.on bq)
  clear bq H6 R6
  go_wp2_with fail
  refine (same_any A3 c3 s A1 c1 s _ (by have := HN.out; omega) (by have := HN.out; omega) (R7.out.at (by simp)) (R7.out.at (by simp))).mono ?_
  rintro e w8 ⟨rfl, bq⟩
  rw [show decide (s = s) = true from decide_eq_true rfl]
  have H8 := Lib.hid (H7.out.call bq)
  have R8 := Lib.hid (R7.out.on bq)
  clear bq H7 R7
  have RK := Lib.hid (R8.out.on ((Below.refl w8.heap.size w8).alloc (Nat.le_refl _) (.cells (cellsOf encK [k]).toArray 29)))
  have HK := Lib.hid (H8.out.box 29 (cellsOf encK [k]).toArray)
  go_wp2_with (first
      | ((with_reducible refine at_loadg 5 ?_); refine tyKc.wpList_load (by rfl) (.tmp 5) rfl (w.heap.size) (0) rfl (k) (RowC.of_blk (H8.out.at (x := (w.heap.size, 29, (encK k).toArray)) (by simp))) ?_)
      | ((with_reducible refine at_buildSlice 79 ?_); refine wpList_unguard (by rfl) ?_; refine tyKy.wpList_build rfl nzsK 1 _ rfl [k] rfl (by omega) (by omega) (by kernel_rfl) ?_))
  clear H8 R8
  refine (HF.out A2 _ c2 1 t [k] _ (RK.out.at (by simp)) (key_row (Blk.new w8 29 _) (by simp) (by decide)) (by have := HTL.out; omega) (by simp)).mono ?_
  rintro e w9 ⟨rfl, bq⟩
  rw [HFK.out]
  have H9 := Lib.hid ((HK.out.call bq).drop)
  have R9 := Lib.hid (RK.out.on bq)
  clear bq HK RK
  go_wp2_with fail
  refine (HF.out A2 A' c2 c' t m _ (R9.out.at (by simp)) (R9.out.at (by simp)) (by have := HTL.out; omega) (by have := HN.out; omega)).mono ?_
  rintro e w10 ⟨rfl, bq⟩
  rw [HFM.out]
  have H10 := Lib.hid (H9.out.call bq)
  have R10 := Lib.hid (R9.out.on bq)
  clear bq H9 R9
  go_wp2_with fail
  go_ret
  exact ⟨rfl, H10.out.below⟩
set_option maxRecDepth 20000 in
set_option maxHeartbeats 4000000 in
theorem nback_fym (HSP : SpendOk) (HUN : UnspendOk) (HFR : FreeOk) (A A' : Option Addr) (c c' : Nat) (l m : List K32) (k : K32) (w : World) (hl : RowIn encK 32 w w.heap.size A c l) (hm : RowIn encK 32 w w.heap.size A' c' m) (h1 : l.length ≤ 200) (h2 : m.length ≤ 200) (s : List K32) (hx : spendN [] (sortK l) = (s, 161)) (hq : decide l.Nodup = false) (hset : IsSet s) (hsl : s.length ≤ 200) (hf : freeN s m = true) (hm0 : 0 < m.length) (hks : decide (k ∈ s) = false) (hkm : decide (k ∈ m) = true) :
    Calls Try.prog 4 #[.slice A l.length c, .slice A' m.length c', .agg (encK k).toArray] w fun e w' => e = .returned (.bool true) ∧ Below w.heap.size w w' := by
  have SH := Lib.hid (fun W => nshown_any HSP W)
  unfold SpendOk at HSP
  unfold UnspendOk at HUN
  unfold FreeOk at HFR
  have HS := Lib.hid HSP
  have HU := Lib.hid HUN
  have HF := Lib.hid HFR
  have HN := Lib.hid (show l.length ≤ 200 ∧ m.length ≤ 200 ∧ s.length ≤ 200 from ⟨h1, h2, hsl⟩)
  have HX := Lib.hid hx
  have HD := Lib.hid hq
  have HST := Lib.hid hset
  obtain ⟨t, ht⟩ : ∃ t, addL s m = t := ⟨_, rfl⟩
  have htl : t.length = s.length + m.length := by rw [← ht]; exact addL_len m s (freeN_iff.1 hf).2 (freeN_iff.1 hf).1
  have HTL := Lib.hid (show t.length ≤ 400 by omega)
  have HY := Lib.hid (show spendN s m = (t, 0) by unfold spendN; rw [if_pos hf, ht])
  have HB := Lib.hid (show undoN t m = (s, 0) by rw [← ht]; exact spend_undo hset hf)
  have HFK := Lib.hid (show freeN t [k] = false from by
    have hk : k ∈ t ↔ k ∈ s ∨ k ∈ m := by rw [← ht]; exact addL_mem
    have key : freeN t [k] = !decide (k ∈ t) := by
      rw [Bool.eq_iff_iff, freeN_iff, Bool.not_eq_true', decide_eq_false_iff_not]
      simp
    rw [key]
    rw [decide_eq_true (hk.2 (.inr (of_decide_eq_true hkm)))]
    rfl)
  have HKS := Lib.hid hks
  have HKM := Lib.hid hkm
  have hm1 : ((m.length : Int) == 0) = false := beq_eq_false_iff_ne.mpr (by omega)
  have HFM := Lib.hid (show freeN t m = false from by
    cases hfm : freeN t m with
    | false => rfl
    | true =>
      obtain ⟨y, hy⟩ := List.exists_mem_of_length_pos hm0
      exact absurd (by rw [← ht]; exact addL_mem.2 (.inr hy)) ((freeN_iff.1 hfm).1 y hy))
  have hw1 : IntKind.i64.wrap ((s.length : Int) + (m.length : Int)) = (t.length : Int) := by rw [IntKind.wrap_i64]; omega
  have hw2 : (s.length : Int) + (m.length : Int) = (t.length : Int) := by omega
  have hw3 : IntKind.i64.wrap (t.length : Int) = (t.length : Int) := by rw [IntKind.wrap_i64]; omega
  have H0 := Lib.hid ((Holds.nil w).box 29 (encK k).toArray)
  have R0 := Lib.hid ((((KRows.nil w).cons hm).cons hl).on ((Below.refl w.heap.size w).alloc (Nat.le_refl _) (.cells (encK k).toArray 29)))
  have hd : decide ((200 : Int) < (l.length : Int)) = false := by simp; omega
  have hd2 : decide ((200 : Int) < (m.length : Int)) = false := by simp; omega
  clear HSP HUN HFR hl hm h1 h2 hx hq hsl hf hset htl ht hm0 hks hkm
  go_enter Try.func4, Try.ntmps4
  go_wp2_with fail
  refine (SH.out _).mono ?_
  rintro e w1 ⟨rfl, bq⟩
  have H1 := Lib.hid (H0.out.call bq)
  have R1 := Lib.hid (R0.out.on bq)
  clear bq H0 R0
  go_wp2_with fail
  refine (refSort_any A c l _ (by have := HN.out; omega) _ (Nat.le_refl _) (R1.out.at (by simp))).mono ?_
  rintro e w2 ⟨v, rfl, pq, bq⟩
  obtain ⟨As, cs, rfl, rq⟩ := RowIn.of_own encK_len pq
  have H2 := Lib.hid (H1.out.call bq)
  have R2 := Lib.hid ((R1.out.on bq).cons rq)
  clear bq rq pq H1 R1
  go_wp2_with fail
  refine (HS.out none As 0 cs [] (sortK l) _ (RowIn.nil (Nat.zero_le _)) (R2.out.at (by simp)) (by decide) (by rw [sortK_len]; have := HN.out; omega)).mono ?_
  rw [HX.out]
  rintro e w3 ⟨A1, c1, rfl, rq, bq⟩
  have H3 := Lib.hid (H2.out.call bq)
  have R3 := Lib.hid ((R2.out.on bq).cons rq)
  clear bq rq H2 R2
  go_wp2_with fail
  refine (refDistinct_any A c l _ (by have := HN.out; omega) _ (Nat.le_refl _) (R3.out.at (by simp))).mono ?_
  rintro e w4 ⟨rfl, bq⟩
  rw [HD.out]
  have H4 := Lib.hid (H3.out.call bq)
  have R4 := Lib.hid (R3.out.on bq)
  clear bq H3 R3
  go_wp2_with fail
  refine (HS.out A1 A' c1 c' s m _ (R4.out.at (by simp)) (R4.out.at (by simp)) (by have := HN.out; omega) (by have := HN.out; omega)).mono ?_
  rw [HY.out]
  rintro e w5 ⟨A2, c2, rfl, rq, bq⟩
  have H5 := Lib.hid (H4.out.call bq)
  have R5 := Lib.hid ((R4.out.on bq).cons rq)
  clear bq rq H4 R4
  go_wp2_with fail
  refine (HU.out A2 A' c2 c' t m _ (R5.out.at (by simp)) (R5.out.at (by simp)) (by have := HTL.out; omega) (by have := HN.out; omega)).mono ?_
  rw [HB.out]
  rintro e w6 ⟨A3, c3, rfl, rq, bq⟩
  have H6 := Lib.hid (H5.out.call bq)
  have R6 := Lib.hid ((R5.out.on bq).cons rq)
  clear bq rq H5 R5
  go_wp2_with (first
      | ((with_reducible refine at_load 5 ?_); refine tyKc.wpList_load rfl (.tmp 5) rfl (w.heap.size) (0) rfl (k) (RowC.of_blk (H6.out.at (x := (w.heap.size, 29, (encK k).toArray)) (by simp))) ?_))
  have HH := refHas_any A1 c1 s k _ _ (by have := HN.out; omega) (Nat.le_refl _) (R6.out.at (A := A1) (c := c1) (l := s) (by simp))
  rw [← encK_arr, HKS.out] at HH
  refine (HH).mono ?_
  rintro e w7 ⟨rfl, bq⟩
  have H7 := Lib.hid (H6.out.call bq)
  have R7 := Lib.hid (R6.out.on bq)
  clear bq H6 R6
  go_wp2_with (first
      | ((with_reducible refine at_loadg 5 ?_); refine tyKc.wpList_load (by rfl) (.tmp 5) rfl (w.heap.size) (0) rfl (k) (RowC.of_blk (H7.out.at (x := (w.heap.size, 29, (encK k).toArray)) (by simp))) ?_))
  have HH2 := refHas_any A' c' m k _ _ (by have := HN.out; omega) (Nat.le_refl _) (R7.out.at (A := A') (c := c') (l := m) (by simp))
  rw [← encK_arr, HKM.out] at HH2
  refine (HH2).mono ?_
  rintro e w8 ⟨rfl, bq⟩
  have H8 := Lib.hid (H7.out.call bq)
  have R8 := Lib.hid (R7.out.on bq)
  clear bq H7 R7
  go_wp2_with fail
  refine (same_any A3 c3 s A1 c1 s _ (by have := HN.out; omega) (by have := HN.out; omega) (R8.out.at (by simp)) (R8.out.at (by simp))).mono ?_
  rintro e w9 ⟨rfl, bq⟩
  rw [show decide (s = s) = true from decide_eq_true rfl]
  have H9 := Lib.hid (H8.out.call bq)
  have R9 := Lib.hid (R8.out.on bq)
  clear bq H8 R8
  have RK := Lib.hid (R9.out.on ((Below.refl w9.heap.size w9).alloc (Nat.le_refl _) (.cells (cellsOf encK [k]).toArray 29)))
  have HK := Lib.hid (H9.out.box 29 (cellsOf encK [k]).toArray)
  go_wp2_with (first
      | ((with_reducible refine at_loadg 5 ?_); refine tyKc.wpList_load (by rfl) (.tmp 5) rfl (w.heap.size) (0) rfl (k) (RowC.of_blk (H9.out.at (x := (w.heap.size, 29, (encK k).toArray)) (by simp))) ?_)
      | ((with_reducible refine at_buildSlice 79 ?_); refine wpList_unguard (by rfl) ?_; refine tyKy.wpList_build rfl nzsK 1 _ rfl [k] rfl (by omega) (by omega) (by kernel_rfl) ?_))
  clear H9 R9
  refine (HF.out A2 _ c2 1 t [k] _ (RK.out.at (by simp)) (key_row (Blk.new w9 29 _) (by simp) (by decide)) (by have := HTL.out; omega) (by simp)).mono ?_
  rintro e w10 ⟨rfl, bq⟩
  rw [HFK.out]
  have H10 := Lib.hid ((HK.out.call bq).drop)
  have R10 := Lib.hid (RK.out.on bq)
  clear bq HK RK
  go_wp2_with fail
  refine (HF.out A2 A' c2 c' t m _ (R10.out.at (by simp)) (R10.out.at (by simp)) (by have := HTL.out; omega) (by have := HN.out; omega)).mono ?_
  rintro e w11 ⟨rfl, bq⟩
  rw [HFM.out]
  have H11 := Lib.hid (H10.out.call bq)
  have R11 := Lib.hid (R10.out.on bq)
  clear bq H10 R10
  go_wp2_with fail
  go_ret
  exact ⟨rfl, H11.out.below⟩
set_option maxRecDepth 20000 in
set_option maxHeartbeats 4000000 in
theorem nback_fyn (HSP : SpendOk) (HUN : UnspendOk) (HFR : FreeOk) (A A' : Option Addr) (c c' : Nat) (l m : List K32) (k : K32) (w : World) (hl : RowIn encK 32 w w.heap.size A c l) (hm : RowIn encK 32 w w.heap.size A' c' m) (h1 : l.length ≤ 200) (h2 : m.length ≤ 200) (s : List K32) (hx : spendN [] (sortK l) = (s, 161)) (hq : decide l.Nodup = false) (hset : IsSet s) (hsl : s.length ≤ 200) (hf : freeN s m = true) (hm0 : 0 < m.length) (hks : decide (k ∈ s) = false) (hkm : decide (k ∈ m) = false) :
    Calls Try.prog 4 #[.slice A l.length c, .slice A' m.length c', .agg (encK k).toArray] w fun e w' => e = .returned (.bool true) ∧ Below w.heap.size w w' := by
  have SH := Lib.hid (fun W => nshown_any HSP W)
  unfold SpendOk at HSP
  unfold UnspendOk at HUN
  unfold FreeOk at HFR
  have HS := Lib.hid HSP
  have HU := Lib.hid HUN
  have HF := Lib.hid HFR
  have HN := Lib.hid (show l.length ≤ 200 ∧ m.length ≤ 200 ∧ s.length ≤ 200 from ⟨h1, h2, hsl⟩)
  have HX := Lib.hid hx
  have HD := Lib.hid hq
  have HST := Lib.hid hset
  obtain ⟨t, ht⟩ : ∃ t, addL s m = t := ⟨_, rfl⟩
  have htl : t.length = s.length + m.length := by rw [← ht]; exact addL_len m s (freeN_iff.1 hf).2 (freeN_iff.1 hf).1
  have HTL := Lib.hid (show t.length ≤ 400 by omega)
  have HY := Lib.hid (show spendN s m = (t, 0) by unfold spendN; rw [if_pos hf, ht])
  have HB := Lib.hid (show undoN t m = (s, 0) by rw [← ht]; exact spend_undo hset hf)
  have HFK := Lib.hid (show freeN t [k] = true from by
    have hk : k ∈ t ↔ k ∈ s ∨ k ∈ m := by rw [← ht]; exact addL_mem
    have key : freeN t [k] = !decide (k ∈ t) := by
      rw [Bool.eq_iff_iff, freeN_iff, Bool.not_eq_true', decide_eq_false_iff_not]
      simp
    rw [key]
    rw [decide_eq_false (fun h => (hk.1 h).elim (of_decide_eq_false hks) (of_decide_eq_false hkm))]
    rfl)
  have HKS := Lib.hid hks
  have HKM := Lib.hid hkm
  have hm1 : ((m.length : Int) == 0) = false := beq_eq_false_iff_ne.mpr (by omega)
  have HFM := Lib.hid (show freeN t m = false from by
    cases hfm : freeN t m with
    | false => rfl
    | true =>
      obtain ⟨y, hy⟩ := List.exists_mem_of_length_pos hm0
      exact absurd (by rw [← ht]; exact addL_mem.2 (.inr hy)) ((freeN_iff.1 hfm).1 y hy))
  have hw1 : IntKind.i64.wrap ((s.length : Int) + (m.length : Int)) = (t.length : Int) := by rw [IntKind.wrap_i64]; omega
  have hw2 : (s.length : Int) + (m.length : Int) = (t.length : Int) := by omega
  have hw3 : IntKind.i64.wrap (t.length : Int) = (t.length : Int) := by rw [IntKind.wrap_i64]; omega
  have H0 := Lib.hid ((Holds.nil w).box 29 (encK k).toArray)
  have R0 := Lib.hid ((((KRows.nil w).cons hm).cons hl).on ((Below.refl w.heap.size w).alloc (Nat.le_refl _) (.cells (encK k).toArray 29)))
  have hd : decide ((200 : Int) < (l.length : Int)) = false := by simp; omega
  have hd2 : decide ((200 : Int) < (m.length : Int)) = false := by simp; omega
  clear HSP HUN HFR hl hm h1 h2 hx hq hsl hf hset htl ht hm0 hks hkm
  go_enter Try.func4, Try.ntmps4
  go_wp2_with fail
  refine (SH.out _).mono ?_
  rintro e w1 ⟨rfl, bq⟩
  have H1 := Lib.hid (H0.out.call bq)
  have R1 := Lib.hid (R0.out.on bq)
  clear bq H0 R0
  go_wp2_with fail
  refine (refSort_any A c l _ (by have := HN.out; omega) _ (Nat.le_refl _) (R1.out.at (by simp))).mono ?_
  rintro e w2 ⟨v, rfl, pq, bq⟩
  obtain ⟨As, cs, rfl, rq⟩ := RowIn.of_own encK_len pq
  have H2 := Lib.hid (H1.out.call bq)
  have R2 := Lib.hid ((R1.out.on bq).cons rq)
  clear bq rq pq H1 R1
  go_wp2_with fail
  refine (HS.out none As 0 cs [] (sortK l) _ (RowIn.nil (Nat.zero_le _)) (R2.out.at (by simp)) (by decide) (by rw [sortK_len]; have := HN.out; omega)).mono ?_
  rw [HX.out]
  rintro e w3 ⟨A1, c1, rfl, rq, bq⟩
  have H3 := Lib.hid (H2.out.call bq)
  have R3 := Lib.hid ((R2.out.on bq).cons rq)
  clear bq rq H2 R2
  go_wp2_with fail
  refine (refDistinct_any A c l _ (by have := HN.out; omega) _ (Nat.le_refl _) (R3.out.at (by simp))).mono ?_
  rintro e w4 ⟨rfl, bq⟩
  rw [HD.out]
  have H4 := Lib.hid (H3.out.call bq)
  have R4 := Lib.hid (R3.out.on bq)
  clear bq H3 R3
  go_wp2_with fail
  refine (HS.out A1 A' c1 c' s m _ (R4.out.at (by simp)) (R4.out.at (by simp)) (by have := HN.out; omega) (by have := HN.out; omega)).mono ?_
  rw [HY.out]
  rintro e w5 ⟨A2, c2, rfl, rq, bq⟩
  have H5 := Lib.hid (H4.out.call bq)
  have R5 := Lib.hid ((R4.out.on bq).cons rq)
  clear bq rq H4 R4
  go_wp2_with fail
  refine (HU.out A2 A' c2 c' t m _ (R5.out.at (by simp)) (R5.out.at (by simp)) (by have := HTL.out; omega) (by have := HN.out; omega)).mono ?_
  rw [HB.out]
  rintro e w6 ⟨A3, c3, rfl, rq, bq⟩
  have H6 := Lib.hid (H5.out.call bq)
  have R6 := Lib.hid ((R5.out.on bq).cons rq)
  clear bq rq H5 R5
  go_wp2_with (first
      | ((with_reducible refine at_load 5 ?_); refine tyKc.wpList_load rfl (.tmp 5) rfl (w.heap.size) (0) rfl (k) (RowC.of_blk (H6.out.at (x := (w.heap.size, 29, (encK k).toArray)) (by simp))) ?_))
  have HH := refHas_any A1 c1 s k _ _ (by have := HN.out; omega) (Nat.le_refl _) (R6.out.at (A := A1) (c := c1) (l := s) (by simp))
  rw [← encK_arr, HKS.out] at HH
  refine (HH).mono ?_
  rintro e w7 ⟨rfl, bq⟩
  have H7 := Lib.hid (H6.out.call bq)
  have R7 := Lib.hid (R6.out.on bq)
  clear bq H6 R6
  go_wp2_with (first
      | ((with_reducible refine at_loadg 5 ?_); refine tyKc.wpList_load (by rfl) (.tmp 5) rfl (w.heap.size) (0) rfl (k) (RowC.of_blk (H7.out.at (x := (w.heap.size, 29, (encK k).toArray)) (by simp))) ?_))
  have HH2 := refHas_any A' c' m k _ _ (by have := HN.out; omega) (Nat.le_refl _) (R7.out.at (A := A') (c := c') (l := m) (by simp))
  rw [← encK_arr, HKM.out] at HH2
  refine (HH2).mono ?_
  rintro e w8 ⟨rfl, bq⟩
  have H8 := Lib.hid (H7.out.call bq)
  have R8 := Lib.hid (R7.out.on bq)
  clear bq H7 R7
  go_wp2_with fail
  refine (same_any A3 c3 s A1 c1 s _ (by have := HN.out; omega) (by have := HN.out; omega) (R8.out.at (by simp)) (R8.out.at (by simp))).mono ?_
  rintro e w9 ⟨rfl, bq⟩
  rw [show decide (s = s) = true from decide_eq_true rfl]
  have H9 := Lib.hid (H8.out.call bq)
  have R9 := Lib.hid (R8.out.on bq)
  clear bq H8 R8
  have RK := Lib.hid (R9.out.on ((Below.refl w9.heap.size w9).alloc (Nat.le_refl _) (.cells (cellsOf encK [k]).toArray 29)))
  have HK := Lib.hid (H9.out.box 29 (cellsOf encK [k]).toArray)
  go_wp2_with (first
      | ((with_reducible refine at_loadg 5 ?_); refine tyKc.wpList_load (by rfl) (.tmp 5) rfl (w.heap.size) (0) rfl (k) (RowC.of_blk (H9.out.at (x := (w.heap.size, 29, (encK k).toArray)) (by simp))) ?_)
      | ((with_reducible refine at_buildSlice 79 ?_); refine wpList_unguard (by rfl) ?_; refine tyKy.wpList_build rfl nzsK 1 _ rfl [k] rfl (by omega) (by omega) (by kernel_rfl) ?_))
  clear H9 R9
  refine (HF.out A2 _ c2 1 t [k] _ (RK.out.at (by simp)) (key_row (Blk.new w9 29 _) (by simp) (by decide)) (by have := HTL.out; omega) (by simp)).mono ?_
  rintro e w10 ⟨rfl, bq⟩
  rw [HFK.out]
  have H10 := Lib.hid ((HK.out.call bq).drop)
  have R10 := Lib.hid (RK.out.on bq)
  clear bq HK RK
  go_wp2_with fail
  refine (HF.out A2 A' c2 c' t m _ (R10.out.at (by simp)) (R10.out.at (by simp)) (by have := HTL.out; omega) (by have := HN.out; omega)).mono ?_
  rintro e w11 ⟨rfl, bq⟩
  rw [HFM.out]
  have H11 := Lib.hid (H10.out.call bq)
  have R11 := Lib.hid (R10.out.on bq)
  clear bq H10 R10
  go_wp2_with fail
  go_ret
  exact ⟨rfl, H11.out.below⟩
theorem nback_walk (HSP : SpendOk) (HUN : UnspendOk) (HFR : FreeOk) (A A' : Option Addr) (c c' : Nat) (l m : List K32) (k : K32) (w : World) (hl : RowIn encK 32 w w.heap.size A c l) (hm : RowIn encK 32 w w.heap.size A' c' m) :
    Calls Try.prog 4 #[.slice A l.length c, .slice A' m.length c', .agg (encK k).toArray] w fun e w' => e = .returned (.bool true) ∧ Below w.heap.size w w' := by
  by_cases h1 : 200 < l.length
  · exact nback_h1 HSP HUN HFR A A' c c' l m k w hl hm h1
  by_cases h2 : 200 < m.length
  · exact nback_h2 HSP HUN HFR A A' c c' l m k w hl hm (by omega) h2
  cases hq : decide l.Nodup with
  | true =>
    obtain ⟨S, hS⟩ : ∃ S, addL [] (sortK l) = S := ⟨_, rfl⟩
    have hx : spendN [] (sortK l) = (S, 0) := by unfold spendN; rw [free_sort, hq, if_pos rfl, hS]
    have hset : IsSet S := by rw [← hS]; exact addL_set List.Pairwise.nil
    have hsl : S.length ≤ 200 := by have := addL_le (sortK l) []; rw [hS, sortK_len] at this; simp at this; omega
    cases hf : freeN S m with
    | false => exact nback_tno HSP HUN HFR A A' c c' l m k w hl hm (by omega) (by omega) S hx hq hset hsl hf
    | true =>
      by_cases hm0 : m.length = 0
      · cases hks : decide (k ∈ S) with
        | true => exact nback_tes HSP HUN HFR A A' c c' l m k w hl hm (by omega) (by omega) S hx hq hset hsl hf hm0 hks
        | false => exact nback_ten HSP HUN HFR A A' c c' l m k w hl hm (by omega) (by omega) S hx hq hset hsl hf hm0 hks (decide_eq_false fun h => by rw [List.length_eq_zero_iff.1 hm0] at h; cases h)
      · cases hks : decide (k ∈ S) with
        | true => exact nback_tys HSP HUN HFR A A' c c' l m k w hl hm (by omega) (by omega) S hx hq hset hsl hf (by omega) hks
        | false => cases hkm : decide (k ∈ m) with
          | true => exact nback_tym HSP HUN HFR A A' c c' l m k w hl hm (by omega) (by omega) S hx hq hset hsl hf (by omega) hks hkm
          | false => exact nback_tyn HSP HUN HFR A A' c c' l m k w hl hm (by omega) (by omega) S hx hq hset hsl hf (by omega) hks hkm
  | false =>
    obtain ⟨S, hS⟩ : ∃ S : List K32, [] = S := ⟨_, rfl⟩
    have hx : spendN [] (sortK l) = (S, 161) := by unfold spendN; rw [free_sort, hq, ← hS]; rfl
    have hset : IsSet S := by rw [← hS]; exact List.Pairwise.nil
    have hsl : S.length ≤ 200 := by rw [← hS]; simp
    cases hf : freeN S m with
    | false => exact nback_fno HSP HUN HFR A A' c c' l m k w hl hm (by omega) (by omega) S hx hq hset hsl hf
    | true =>
      by_cases hm0 : m.length = 0
      · cases hks : decide (k ∈ S) with
        | true => exact nback_fes HSP HUN HFR A A' c c' l m k w hl hm (by omega) (by omega) S hx hq hset hsl hf hm0 hks
        | false => exact nback_fen HSP HUN HFR A A' c c' l m k w hl hm (by omega) (by omega) S hx hq hset hsl hf hm0 hks (decide_eq_false fun h => by rw [List.length_eq_zero_iff.1 hm0] at h; cases h)
      · cases hks : decide (k ∈ S) with
        | true => exact nback_fys HSP HUN HFR A A' c c' l m k w hl hm (by omega) (by omega) S hx hq hset hsl hf (by omega) hks
        | false => cases hkm : decide (k ∈ m) with
          | true => exact nback_fym HSP HUN HFR A A' c c' l m k w hl hm (by omega) (by omega) S hx hq hset hsl hf (by omega) hks hkm
          | false => exact nback_fyn HSP HUN HFR A A' c c' l m k w hl hm (by omega) (by omega) S hx hq hset hsl hf (by omega) hks hkm
end Go.Proofs.Ytklfbconbkbmpaa
