/- NullsTells: the statement's walk. Written by genLN.py. -/
import Derived.Test.YtklfbconbkbmpaaNulR
namespace Go.Proofs.Ytklfbconbkbmpaa
open Go.RowKit
set_option maxRecDepth 20000 in
set_option maxHeartbeats 4000000 in
theorem ntells_h1 (HSP : SpendOk) (_ : UnspendOk) (_ : FreeOk) (A A' : Option Addr) (c c' : Nat) (s l : List K32) (w : World) (hs : RowIn encK 32 w w.heap.size A c s) (hl : RowIn encK 32 w w.heap.size A' c' l) (h1 : 200 < s.length) :
    Calls Try.prog 3 #[.slice A s.length c, .slice A' l.length c'] w fun e w' => e = .returned (.bool true) ∧ Below w.heap.size w w' := by
  have SH := Lib.hid (fun W => nshown_any HSP W)
  have B0 := Lib.hid (Below.refl w.heap.size w)
  have R0 := Lib.hid (((KRows.nil w).cons hl).cons hs)
  have hd : decide ((200 : Int) < (s.length : Int)) = true := by simp; omega
  clear HSP hs hl h1
  go_enter Try.func3, Try.ntmps3
  go_wp2_with fail
  refine (SH.out _).mono ?_
  rintro e w1 ⟨rfl, bq⟩
  have B1 := Lib.hid (B0.out.trans (bq.mono B0.out.size))
  have R1 := Lib.hid (R0.out.on bq)
  clear bq B0 R0
  go_wp2_with fail
  go_ret
  exact ⟨rfl, B1.out⟩
set_option maxRecDepth 20000 in
set_option maxHeartbeats 4000000 in
theorem ntells_h2 (HSP : SpendOk) (_ : UnspendOk) (_ : FreeOk) (A A' : Option Addr) (c c' : Nat) (s l : List K32) (w : World) (hs : RowIn encK 32 w w.heap.size A c s) (hl : RowIn encK 32 w w.heap.size A' c' l) (h1 : s.length ≤ 200) (h2 : 200 < l.length) :
    Calls Try.prog 3 #[.slice A s.length c, .slice A' l.length c'] w fun e w' => e = .returned (.bool true) ∧ Below w.heap.size w w' := by
  have SH := Lib.hid (fun W => nshown_any HSP W)
  have B0 := Lib.hid (Below.refl w.heap.size w)
  have R0 := Lib.hid (((KRows.nil w).cons hl).cons hs)
  have hd : decide ((200 : Int) < (s.length : Int)) = false := by simp; omega
  have hd2 : decide ((200 : Int) < (l.length : Int)) = true := by simp; omega
  clear HSP hs hl h1 h2
  go_enter Try.func3, Try.ntmps3
  go_wp2_with fail
  refine (SH.out _).mono ?_
  rintro e w1 ⟨rfl, bq⟩
  have B1 := Lib.hid (B0.out.trans (bq.mono B0.out.size))
  have R1 := Lib.hid (R0.out.on bq)
  clear bq B0 R0
  go_wp2_with fail
  go_ret
  exact ⟨rfl, B1.out⟩
set_option maxRecDepth 20000 in
set_option maxHeartbeats 4000000 in
theorem ntells_main (HSP : SpendOk) (HUN : UnspendOk) (HFR : FreeOk) (A A' : Option Addr) (c c' : Nat) (s l : List K32) (w : World) (hs : RowIn encK 32 w w.heap.size A c s) (hl : RowIn encK 32 w w.heap.size A' c' l) (h1 : s.length ≤ 200) (h2 : l.length ≤ 200) :
    Calls Try.prog 3 #[.slice A s.length c, .slice A' l.length c'] w fun e w' => e = .returned (.bool true) ∧ Below w.heap.size w w' := by
  have SH := Lib.hid (fun W => nshown_any HSP W)
  unfold SpendOk at HSP
  unfold UnspendOk at HUN
  unfold FreeOk at HFR
  have HS := Lib.hid HSP
  have HU := Lib.hid HUN
  have HF := Lib.hid HFR
  have B0 := Lib.hid (Below.refl w.heap.size w)
  have R0 := Lib.hid (((KRows.nil w).cons hl).cons hs)
  have hd : decide ((200 : Int) < (s.length : Int)) = false := by simp; omega
  have hd2 : decide ((200 : Int) < (l.length : Int)) = false := by simp; omega
  have HN := Lib.hid (And.intro h1 h2)
  clear HSP HUN HFR hs hl h1 h2
  go_enter Try.func3, Try.ntmps3
  go_wp2_with fail
  refine (SH.out _).mono ?_
  rintro e w1 ⟨rfl, bq⟩
  have B1 := Lib.hid (B0.out.trans (bq.mono B0.out.size))
  have R1 := Lib.hid (R0.out.on bq)
  clear bq B0 R0
  go_wp2_with fail
  refine (HS.out A A' c c' s l _ (R1.out.at (by simp)) (R1.out.at (by simp)) (by have := HN.out; omega) (by have := HN.out; omega)).mono ?_
  rintro e w2 ⟨A1, c1, rfl, rq, bq⟩
  have B2 := Lib.hid (B1.out.trans (bq.mono B1.out.size))
  have R2 := Lib.hid ((R1.out.on bq).cons rq)
  clear bq rq B1 R1
  go_wp2_with fail
  refine (rSpend_n A A' c c' s l _ (R2.out.at (by simp)) (R2.out.at (by simp)) (by have := HN.out; omega) (by have := HN.out; omega)).mono ?_
  rintro e w3 ⟨A2, c2, rfl, rq, bq⟩
  have B3 := Lib.hid (B2.out.trans (bq.mono B2.out.size))
  have R3 := Lib.hid ((R2.out.on bq).cons rq)
  clear bq rq B2 R2
  go_wp2_with fail
  refine (HU.out A A' c c' s l _ (R3.out.at (by simp)) (R3.out.at (by simp)) (by have := HN.out; omega) (by have := HN.out; omega)).mono ?_
  rintro e w4 ⟨A3, c3, rfl, rq, bq⟩
  have B4 := Lib.hid (B3.out.trans (bq.mono B3.out.size))
  have R4 := Lib.hid ((R3.out.on bq).cons rq)
  clear bq rq B3 R3
  go_wp2_with fail
  refine (rUndo_n A A' c c' s l _ (R4.out.at (by simp)) (R4.out.at (by simp)) (by have := HN.out; omega) (by have := HN.out; omega)).mono ?_
  rintro e w5 ⟨A4, c4, rfl, rq, bq⟩
  have B5 := Lib.hid (B4.out.trans (bq.mono B4.out.size))
  have R5 := Lib.hid ((R4.out.on bq).cons rq)
  clear bq rq B4 R4
  obtain ⟨X, hX⟩ : ∃ X, spendN s l = X := ⟨_, rfl⟩
  obtain ⟨Y, hY⟩ : ∃ Y, undoN s l = Y := ⟨_, rfl⟩
  have L1 := Lib.hid (spendN_len s l)
  have L2 := Lib.hid (undoN_len l s)
  simp only [hX, hY] at R5 L1 L2 ⊢
  clear hX hY
  go_wp2_with fail
  refine (same_any A1 c1 X.1 A2 c2 X.1 _ (by have := HN.out; have := L1.out; have := L2.out; omega) (by have := HN.out; have := L1.out; have := L2.out; omega) (R5.out.at (by simp)) (R5.out.at (by simp))).mono ?_
  rintro e w6 ⟨rfl, bq⟩
  rw [show decide (X.1 = X.1) = true from decide_eq_true rfl]
  have B6 := Lib.hid (B5.out.trans (bq.mono B5.out.size))
  have R6 := Lib.hid (R5.out.on bq)
  clear bq B5 R5
  go_wp2_with fail
  refine (same_any A3 c3 Y.1 A4 c4 Y.1 _ (by have := HN.out; have := L1.out; have := L2.out; omega) (by have := HN.out; have := L1.out; have := L2.out; omega) (R6.out.at (by simp)) (R6.out.at (by simp))).mono ?_
  rintro e w7 ⟨rfl, bq⟩
  rw [show decide (Y.1 = Y.1) = true from decide_eq_true rfl]
  have B7 := Lib.hid (B6.out.trans (bq.mono B6.out.size))
  have R7 := Lib.hid (R6.out.on bq)
  clear bq B6 R6
  go_wp2_with fail
  refine (HF.out A A' c c' s l _ (R7.out.at (by simp)) (R7.out.at (by simp)) (by have := HN.out; omega) (by have := HN.out; omega)).mono ?_
  rintro e w8 ⟨rfl, bq⟩
  have B8 := Lib.hid (B7.out.trans (bq.mono B7.out.size))
  have R8 := Lib.hid (R7.out.on bq)
  clear bq B7 R7
  go_wp2_with fail
  refine (rFree_n A A' c c' s l _ (R8.out.at (by simp)) (R8.out.at (by simp)) (by have := HN.out; omega) (by have := HN.out; omega)).mono ?_
  rintro e w9 ⟨rfl, bq⟩
  have B9 := Lib.hid (B8.out.trans (bq.mono B8.out.size))
  have R9 := Lib.hid (R8.out.on bq)
  clear bq B8 R8
  go_wp2_with fail
  go_ret
  exact ⟨by simp, B9.out⟩
theorem ntells_walk (HSP : SpendOk) (HUN : UnspendOk) (HFR : FreeOk) (A A' : Option Addr) (c c' : Nat) (s l : List K32) (w : World) (hs : RowIn encK 32 w w.heap.size A c s) (hl : RowIn encK 32 w w.heap.size A' c' l) :
    Calls Try.prog 3 #[.slice A s.length c, .slice A' l.length c'] w fun e w' => e = .returned (.bool true) ∧ Below w.heap.size w w' := by
  by_cases h1 : 200 < s.length
  · exact ntells_h1 HSP HUN HFR A A' c c' s l w hs hl h1
  · by_cases h2 : 200 < l.length
    · exact ntells_h2 HSP HUN HFR A A' c c' s l w hs hl (by omega) h2
    · exact ntells_main HSP HUN HFR A A' c c' s l w hs hl (by omega) (by omega)
end Go.Proofs.Ytklfbconbkbmpaa
