/- NullsTwice: the statement's walk. Written by genLN.py. -/
import Derived.Test.YtklfbconbkbmpaaLNBack
import Derived.Test.YtklfbconbkbmpaaKeyI
namespace Go.Proofs.Ytklfbconbkbmpaa
open Go.RowKit
theorem spend_two (l m : List K32) : (decide l.Nodup = false ∧ spendN [] (l ++ m) = ([], 161) ∧ spendN [] l = ([], 161)) ∨
    (decide l.Nodup = true ∧ spendN [] l = (addL [] l, 0) ∧ freeN (addL [] l) m = false ∧ spendN [] (l ++ m) = ([], 161)) ∨
    (decide l.Nodup = true ∧ spendN [] l = (addL [] l, 0) ∧ freeN (addL [] l) m = true ∧ spendN [] (l ++ m) = (addL (addL [] l) m, 0)) := by
  have hmem : ∀ x, x ∈ addL [] l ↔ x ∈ l := fun x => by rw [addL_mem]; simp
  cases hl : decide l.Nodup with
  | false =>
    refine .inl ⟨rfl, ?_, by unfold spendN; rw [free_of_nil, hl]; rfl⟩
    have h2 : decide (l ++ m).Nodup = false := decide_eq_false fun h => of_decide_eq_false hl (List.nodup_append.1 h).1
    unfold spendN
    rw [free_of_nil, h2]
    rfl
  | true =>
    have h1 : spendN [] l = (addL [] l, 0) := by unfold spendN; rw [free_of_nil, hl]; rfl
    cases hf : freeN (addL [] l) m with
    | true =>
      refine .inr (.inr ⟨rfl, h1, rfl, ?_⟩)
      obtain ⟨f1, f2⟩ := freeN_iff.1 hf
      have h2 : decide (l ++ m).Nodup = true := decide_eq_true (List.nodup_append.2 ⟨of_decide_eq_true hl, f2, fun a ha b hb e => f1 b hb ((hmem b).2 (e ▸ ha))⟩)
      unfold spendN
      rw [free_of_nil, h2, if_pos rfl, addL_app]
    | false =>
      refine .inr (.inl ⟨rfl, h1, rfl, ?_⟩)
      have h2 : decide (l ++ m).Nodup = false := decide_eq_false fun h => by
        obtain ⟨_, n2, n3⟩ := List.nodup_append.1 h
        have : freeN (addL [] l) m = true := freeN_iff.2 ⟨fun x hx hs => n3 x ((hmem x).1 hs) x hx rfl, n2⟩
        rw [hf] at this
        cases this
      unfold spendN
      rw [free_of_nil, h2]
      rfl
theorem again_no {s : List K32} {x : K32} (h : x ∈ s) : spendN s [x] = ([], 161) := by
  have : freeN s [x] = false := by
    cases hf : freeN s [x] with
    | false => rfl
    | true => exact absurd h ((freeN_iff.1 hf).1 x (by simp))
  unfold spendN
  rw [this]
  rfl
theorem undo_no {s : List K32} {x : K32} (h : x ∈ s) (hs : IsSet s) : undoN s [x, x] = ([], 3) := by
  unfold undoN
  rw [if_pos h]
  unfold undoN
  rw [if_neg]
  rw [List.Nodup.mem_erase_iff hs.nodup]
  simp
set_option maxRecDepth 20000 in
set_option maxHeartbeats 4000000 in
theorem ntwice_h1 (HSP : SpendOk) (_ : UnspendOk) (_ : FreeOk) (A A' : Option Addr) (c c' : Nat) (l m : List K32) (n : Int) (w : World) (hl : RowIn encK 32 w w.heap.size A c l) (hm : RowIn encK 32 w w.heap.size A' c' m) (_ : (Lit.int .u8 n).wf = true) (h1 : 100 < l.length) :
    Calls Try.prog 5 #[.slice A l.length c, .slice A' m.length c', .int .u8 n] w fun e w' => e = .returned (.bool true) ∧ Below w.heap.size w w' := by
  have SH := Lib.hid (fun W => nshown_any HSP W)
  have B0 := Lib.hid (Below.refl w.heap.size w)
  have R0 := Lib.hid (((KRows.nil w).cons hm).cons hl)
  have hd : decide ((100 : Int) < (l.length : Int)) = true := by simp; omega
  clear HSP hl hm h1
  go_enter Try.func5, Try.ntmps5
  go_wp2_with fail
  refine (SH.out _).mono ?_
  rintro e w1 ⟨rfl, bq⟩
  have B1 := Lib.hid (B0.out.trans (bq.mono B0.out.size))
  have R1 := Lib.hid (R0.out.on bq)
  clear bq B0 R0
  go_wp2_with fail
  go_ret
  exact ⟨rfl, B1.out⟩
set_option maxRecDepth 20000 in
set_option maxHeartbeats 4000000 in
theorem ntwice_h2 (HSP : SpendOk) (_ : UnspendOk) (_ : FreeOk) (A A' : Option Addr) (c c' : Nat) (l m : List K32) (n : Int) (w : World) (hl : RowIn encK 32 w w.heap.size A c l) (hm : RowIn encK 32 w w.heap.size A' c' m) (_ : (Lit.int .u8 n).wf = true) (h1 : l.length ≤ 100) (h2 : 100 < m.length) :
    Calls Try.prog 5 #[.slice A l.length c, .slice A' m.length c', .int .u8 n] w fun e w' => e = .returned (.bool true) ∧ Below w.heap.size w w' := by
  have SH := Lib.hid (fun W => nshown_any HSP W)
  have B0 := Lib.hid (Below.refl w.heap.size w)
  have R0 := Lib.hid (((KRows.nil w).cons hm).cons hl)
  have hd : decide ((100 : Int) < (l.length : Int)) = false := by simp; omega
  have hd2 : decide ((100 : Int) < (m.length : Int)) = true := by simp; omega
  clear HSP hl hm h1 h2
  go_enter Try.func5, Try.ntmps5
  go_wp2_with fail
  refine (SH.out _).mono ?_
  rintro e w1 ⟨rfl, bq⟩
  have B1 := Lib.hid (B0.out.trans (bq.mono B0.out.size))
  have R1 := Lib.hid (R0.out.on bq)
  clear bq B0 R0
  go_wp2_with fail
  go_ret
  exact ⟨rfl, B1.out⟩
set_option maxRecDepth 20000 in
set_option maxHeartbeats 4000000 in
theorem ntwice_i0 (HSP : SpendOk) (_ : UnspendOk) (_ : FreeOk) (A A' : Option Addr) (c c' : Nat) (l m : List K32) (n : Int) (w : World) (hl : RowIn encK 32 w w.heap.size A c l) (hm : RowIn encK 32 w w.heap.size A' c' m) (_ : (Lit.int .u8 n).wf = true) (h1 : l.length ≤ 100) (h2 : m.length ≤ 100) (L S X Z : List K32) (hL : l ++ m = L) (hSl : S.length ≤ 100) (x1 : spendN [] L = (X, 161)) (x2 : spendN [] l = (S, 161)) (x3 : spendN S m = (Z, 0)) (hl0 : 0 < l.length) :
    Calls Try.prog 5 #[.slice A l.length c, .slice A' m.length c', .int .u8 n] w fun e w' => e = .returned (.bool true) ∧ Below w.heap.size w w' := by
  have SH := Lib.hid (fun W => nshown_any HSP W)
  unfold SpendOk at HSP
  have HS := Lib.hid HSP
  have HN := Lib.hid (show l.length ≤ 100 ∧ m.length ≤ 100 ∧ S.length ≤ 100 ∧ L.length ≤ 200 from ⟨h1, h2, hSl, by rw [← hL, List.length_append]; omega⟩)
  have HLM := Lib.hid hL
  have H1 := Lib.hid x1
  have H2 := Lib.hid x2
  have H3 := Lib.hid x3
  have B0 := Lib.hid (Below.refl w.heap.size w)
  have R0 := Lib.hid (((KRows.nil w).cons hm).cons hl)
  have hd : decide ((100 : Int) < (l.length : Int)) = false := by simp; omega
  have hd2 : decide ((100 : Int) < (m.length : Int)) = false := by simp; omega
  have hz : ((l.length : Int) == 0) = false := beq_eq_false_iff_ne.mpr (by omega)
  clear HSP hl hm h1 h2 hL hSl x1 x2 x3 hl0
  go_enter Try.func5, Try.ntmps5
  go_wp2_with fail
  refine (SH.out _).mono ?_
  rintro e w1 ⟨rfl, bq⟩
  have B1 := Lib.hid (B0.out.trans (bq.mono B0.out.size))
  have R1 := Lib.hid (R0.out.on bq)
  clear bq B0 R0
  have BA := Lib.hid (B1.out.trans (((Below.refl w1.heap.size w1).alloc (Nat.le_refl _) (.cells #[] 29)).mono B1.out.size))
  have RA := Lib.hid (show KRows w1 [(A, c, l), (A', c', m)] from R1.out)
  have OA := Lib.hid (own_nil (base := w1.heap.size) (Blk.new w1 29 #[]) (Nat.le_refl _))
  clear R1
  go_wp2_with (first
      | ((with_reducible refine at_appendg 33 31 32 ?_); refine tyKy.wpList_appendIn rfl zcKy 32 zbKy (by omega) (.tmp 31) (.tmp 32) rfl w1.heap.size _ ([] : List K32) rfl OA.out _ A c l rfl ((RA.out.at (A := A) (c := c) (l := l) (by simp)).below ((Below.refl _ _).alloc (Nat.le_refl _) _)) (by have := HN.out; simp; omega) (by simp) ?_; intro v2 y2 p2 g2
         have EB2 := Lib.hid (show Below w1.heap.size w1 y2 from ((Below.refl w1.heap.size w1).alloc (Nat.le_refl _) (.cells #[] 29)).trans (own_grown OA.out g2 (by simp)))
         have O2 := Lib.hid (own_congr p2 (List.nil_append l))
         clear p2 g2)
      | ((with_reducible refine at_appendg 35 33 34 ?_); refine tyKy.wpList_appendIn rfl zcKy 32 zbKy (by omega) (.tmp 33) (.tmp 34) rfl w1.heap.size _ l rfl O2.out _ A' c' m rfl ((RA.out.at (A := A') (c := c') (l := m) (by simp)).below EB2.out) (by have := HN.out; omega) (by have := EB2.out.size; omega) ?_; intro v3 y3 p3 g3
         have EB3 := Lib.hid (show Below w1.heap.size w1 y3 from EB2.out.trans (own_grown O2.out g3 EB2.out.size))
         rw [HLM.out] at p3
         obtain ⟨Aa, ca, rfl, ra⟩ := RowIn.of_own encK_len p3
         have RX := Lib.hid (show KRows y3 [(Aa, ca, L), (A, c, l), (A', c', m)] from (RA.out.on EB3.out).cons ra)
         have BX := Lib.hid (B1.out.trans (EB3.out.mono B1.out.size))
         clear p3 g3 ra))
  obtain ⟨w2, hw⟩ : ∃ w0, y3 = w0 := ⟨_, rfl⟩
  rw [hw] at RX BX ⊢
  have R2 := RX
  have B2 := BX
  clear hw RX BX EB3 EB2 O2 OA RA BA B1
  refine (HS.out none Aa 0 ca [] L _ (RowIn.nil (Nat.zero_le _)) (R2.out.at (by simp)) (by decide) (by have := HN.out; omega)).mono ?_
  rw [H1.out]
  rintro e w3 ⟨A1, c1, rfl, rq, bq⟩
  have B3 := Lib.hid (B2.out.trans (bq.mono B2.out.size))
  have R3 := Lib.hid ((R2.out.on bq).cons rq)
  clear bq rq B2 R2
  go_wp2_with fail
  refine (HS.out none A 0 c [] l _ (RowIn.nil (Nat.zero_le _)) (R3.out.at (by simp)) (by decide) (by have := HN.out; omega)).mono ?_
  rw [H2.out]
  rintro e w4 ⟨A2, c2, rfl, rq, bq⟩
  have B4 := Lib.hid (B3.out.trans (bq.mono B3.out.size))
  have R4 := Lib.hid ((R3.out.on bq).cons rq)
  clear bq rq B3 R3
  go_wp2_with fail
  refine (HS.out A2 A' c2 c' S m _ (R4.out.at (by simp)) (R4.out.at (by simp)) (by have := HN.out; omega) (by have := HN.out; omega)).mono ?_
  rw [H3.out]
  rintro e w5 ⟨A3, c3, rfl, rq, bq⟩
  have B5 := Lib.hid (B4.out.trans (bq.mono B4.out.size))
  have R5 := Lib.hid ((R4.out.on bq).cons rq)
  clear bq rq B4 R4
  go_wp2_with fail
  go_ret
  exact ⟨rfl, B5.out⟩
set_option maxRecDepth 20000 in
set_option maxHeartbeats 4000000 in
theorem ntwice_i1 (HSP : SpendOk) (_ : UnspendOk) (_ : FreeOk) (A A' : Option Addr) (c c' : Nat) (l m : List K32) (n : Int) (w : World) (hl : RowIn encK 32 w w.heap.size A c l) (hm : RowIn encK 32 w w.heap.size A' c' m) (_ : (Lit.int .u8 n).wf = true) (h1 : l.length ≤ 100) (h2 : m.length ≤ 100) (L S X Z : List K32) (hL : l ++ m = L) (hSl : S.length ≤ 100) (x1 : spendN [] L = (X, 161)) (x2 : spendN [] l = (S, 161)) (x3 : spendN S m = (Z, 161)) (hl0 : 0 < l.length) :
    Calls Try.prog 5 #[.slice A l.length c, .slice A' m.length c', .int .u8 n] w fun e w' => e = .returned (.bool true) ∧ Below w.heap.size w w' := by
  have SH := Lib.hid (fun W => nshown_any HSP W)
  unfold SpendOk at HSP
  have HS := Lib.hid HSP
  have HN := Lib.hid (show l.length ≤ 100 ∧ m.length ≤ 100 ∧ S.length ≤ 100 ∧ L.length ≤ 200 from ⟨h1, h2, hSl, by rw [← hL, List.length_append]; omega⟩)
  have HLM := Lib.hid hL
  have H1 := Lib.hid x1
  have H2 := Lib.hid x2
  have H3 := Lib.hid x3
  have B0 := Lib.hid (Below.refl w.heap.size w)
  have R0 := Lib.hid (((KRows.nil w).cons hm).cons hl)
  have hd : decide ((100 : Int) < (l.length : Int)) = false := by simp; omega
  have hd2 : decide ((100 : Int) < (m.length : Int)) = false := by simp; omega
  have hz : ((l.length : Int) == 0) = false := beq_eq_false_iff_ne.mpr (by omega)
  clear HSP hl hm h1 h2 hL hSl x1 x2 x3 hl0
  go_enter Try.func5, Try.ntmps5
  go_wp2_with fail
  refine (SH.out _).mono ?_
  rintro e w1 ⟨rfl, bq⟩
  have B1 := Lib.hid (B0.out.trans (bq.mono B0.out.size))
  have R1 := Lib.hid (R0.out.on bq)
  clear bq B0 R0
  have BA := Lib.hid (B1.out.trans (((Below.refl w1.heap.size w1).alloc (Nat.le_refl _) (.cells #[] 29)).mono B1.out.size))
  have RA := Lib.hid (show KRows w1 [(A, c, l), (A', c', m)] from R1.out)
  have OA := Lib.hid (own_nil (base := w1.heap.size) (Blk.new w1 29 #[]) (Nat.le_refl _))
  clear R1
  go_wp2_with (first
      | ((with_reducible refine at_appendg 33 31 32 ?_); refine tyKy.wpList_appendIn rfl zcKy 32 zbKy (by omega) (.tmp 31) (.tmp 32) rfl w1.heap.size _ ([] : List K32) rfl OA.out _ A c l rfl ((RA.out.at (A := A) (c := c) (l := l) (by simp)).below ((Below.refl _ _).alloc (Nat.le_refl _) _)) (by have := HN.out; simp; omega) (by simp) ?_; intro v2 y2 p2 g2
         have EB2 := Lib.hid (show Below w1.heap.size w1 y2 from ((Below.refl w1.heap.size w1).alloc (Nat.le_refl _) (.cells #[] 29)).trans (own_grown OA.out g2 (by simp)))
         have O2 := Lib.hid (own_congr p2 (List.nil_append l))
         clear p2 g2)
      | ((with_reducible refine at_appendg 35 33 34 ?_); refine tyKy.wpList_appendIn rfl zcKy 32 zbKy (by omega) (.tmp 33) (.tmp 34) rfl w1.heap.size _ l rfl O2.out _ A' c' m rfl ((RA.out.at (A := A') (c := c') (l := m) (by simp)).below EB2.out) (by have := HN.out; omega) (by have := EB2.out.size; omega) ?_; intro v3 y3 p3 g3
         have EB3 := Lib.hid (show Below w1.heap.size w1 y3 from EB2.out.trans (own_grown O2.out g3 EB2.out.size))
         rw [HLM.out] at p3
         obtain ⟨Aa, ca, rfl, ra⟩ := RowIn.of_own encK_len p3
         have RX := Lib.hid (show KRows y3 [(Aa, ca, L), (A, c, l), (A', c', m)] from (RA.out.on EB3.out).cons ra)
         have BX := Lib.hid (B1.out.trans (EB3.out.mono B1.out.size))
         clear p3 g3 ra))
  obtain ⟨w2, hw⟩ : ∃ w0, y3 = w0 := ⟨_, rfl⟩
  rw [hw] at RX BX ⊢
  have R2 := RX
  have B2 := BX
  clear hw RX BX EB3 EB2 O2 OA RA BA B1
  refine (HS.out none Aa 0 ca [] L _ (RowIn.nil (Nat.zero_le _)) (R2.out.at (by simp)) (by decide) (by have := HN.out; omega)).mono ?_
  rw [H1.out]
  rintro e w3 ⟨A1, c1, rfl, rq, bq⟩
  have B3 := Lib.hid (B2.out.trans (bq.mono B2.out.size))
  have R3 := Lib.hid ((R2.out.on bq).cons rq)
  clear bq rq B2 R2
  go_wp2_with fail
  refine (HS.out none A 0 c [] l _ (RowIn.nil (Nat.zero_le _)) (R3.out.at (by simp)) (by decide) (by have := HN.out; omega)).mono ?_
  rw [H2.out]
  rintro e w4 ⟨A2, c2, rfl, rq, bq⟩
  have B4 := Lib.hid (B3.out.trans (bq.mono B3.out.size))
  have R4 := Lib.hid ((R3.out.on bq).cons rq)
  clear bq rq B3 R3
  go_wp2_with fail
  refine (HS.out A2 A' c2 c' S m _ (R4.out.at (by simp)) (R4.out.at (by simp)) (by have := HN.out; omega) (by have := HN.out; omega)).mono ?_
  rw [H3.out]
  rintro e w5 ⟨A3, c3, rfl, rq, bq⟩
  have B5 := Lib.hid (B4.out.trans (bq.mono B4.out.size))
  have R5 := Lib.hid ((R4.out.on bq).cons rq)
  clear bq rq B4 R4
  go_wp2_with fail
  go_ret
  exact ⟨rfl, B5.out⟩
set_option maxRecDepth 20000 in
set_option maxHeartbeats 4000000 in
theorem ntwice_ii0 (HSP : SpendOk) (_ : UnspendOk) (_ : FreeOk) (A A' : Option Addr) (c c' : Nat) (l m : List K32) (n : Int) (w : World) (hl : RowIn encK 32 w w.heap.size A c l) (hm : RowIn encK 32 w w.heap.size A' c' m) (_ : (Lit.int .u8 n).wf = true) (h1 : l.length ≤ 100) (h2 : m.length ≤ 100) (L S X Z : List K32) (hL : l ++ m = L) (hSl : S.length ≤ 100) (x1 : spendN [] L = (X, 161)) (x2 : spendN [] l = (S, 0)) (x3 : spendN S m = (Z, 161)) (hl0 : l.length = 0) :
    Calls Try.prog 5 #[.slice A l.length c, .slice A' m.length c', .int .u8 n] w fun e w' => e = .returned (.bool true) ∧ Below w.heap.size w w' := by
  have SH := Lib.hid (fun W => nshown_any HSP W)
  unfold SpendOk at HSP
  have HS := Lib.hid HSP
  have HN := Lib.hid (show l.length ≤ 100 ∧ m.length ≤ 100 ∧ S.length ≤ 100 ∧ L.length ≤ 200 from ⟨h1, h2, hSl, by rw [← hL, List.length_append]; omega⟩)
  have HLM := Lib.hid hL
  have H1 := Lib.hid x1
  have H2 := Lib.hid x2
  have H3 := Lib.hid x3
  have B0 := Lib.hid (Below.refl w.heap.size w)
  have R0 := Lib.hid (((KRows.nil w).cons hm).cons hl)
  have hd : decide ((100 : Int) < (l.length : Int)) = false := by simp; omega
  have hd2 : decide ((100 : Int) < (m.length : Int)) = false := by simp; omega
  have hz : ((l.length : Int) == 0) = true := by rw [hl0]; rfl
  clear HSP hl hm h1 h2 hL hSl x1 x2 x3 hl0
  go_enter Try.func5, Try.ntmps5
  go_wp2_with fail
  refine (SH.out _).mono ?_
  rintro e w1 ⟨rfl, bq⟩
  have B1 := Lib.hid (B0.out.trans (bq.mono B0.out.size))
  have R1 := Lib.hid (R0.out.on bq)
  clear bq B0 R0
  have BA := Lib.hid (B1.out.trans (((Below.refl w1.heap.size w1).alloc (Nat.le_refl _) (.cells #[] 29)).mono B1.out.size))
  have RA := Lib.hid (show KRows w1 [(A, c, l), (A', c', m)] from R1.out)
  have OA := Lib.hid (own_nil (base := w1.heap.size) (Blk.new w1 29 #[]) (Nat.le_refl _))
  clear R1
  go_wp2_with (first
      | ((with_reducible refine at_appendg 33 31 32 ?_); refine tyKy.wpList_appendIn rfl zcKy 32 zbKy (by omega) (.tmp 31) (.tmp 32) rfl w1.heap.size _ ([] : List K32) rfl OA.out _ A c l rfl ((RA.out.at (A := A) (c := c) (l := l) (by simp)).below ((Below.refl _ _).alloc (Nat.le_refl _) _)) (by have := HN.out; simp; omega) (by simp) ?_; intro v2 y2 p2 g2
         have EB2 := Lib.hid (show Below w1.heap.size w1 y2 from ((Below.refl w1.heap.size w1).alloc (Nat.le_refl _) (.cells #[] 29)).trans (own_grown OA.out g2 (by simp)))
         have O2 := Lib.hid (own_congr p2 (List.nil_append l))
         clear p2 g2)
      | ((with_reducible refine at_appendg 35 33 34 ?_); refine tyKy.wpList_appendIn rfl zcKy 32 zbKy (by omega) (.tmp 33) (.tmp 34) rfl w1.heap.size _ l rfl O2.out _ A' c' m rfl ((RA.out.at (A := A') (c := c') (l := m) (by simp)).below EB2.out) (by have := HN.out; omega) (by have := EB2.out.size; omega) ?_; intro v3 y3 p3 g3
         have EB3 := Lib.hid (show Below w1.heap.size w1 y3 from EB2.out.trans (own_grown O2.out g3 EB2.out.size))
         rw [HLM.out] at p3
         obtain ⟨Aa, ca, rfl, ra⟩ := RowIn.of_own encK_len p3
         have RX := Lib.hid (show KRows y3 [(Aa, ca, L), (A, c, l), (A', c', m)] from (RA.out.on EB3.out).cons ra)
         have BX := Lib.hid (B1.out.trans (EB3.out.mono B1.out.size))
         clear p3 g3 ra))
  obtain ⟨w2, hw⟩ : ∃ w0, y3 = w0 := ⟨_, rfl⟩
  rw [hw] at RX BX ⊢
  have R2 := RX
  have B2 := BX
  clear hw RX BX EB3 EB2 O2 OA RA BA B1
  refine (HS.out none Aa 0 ca [] L _ (RowIn.nil (Nat.zero_le _)) (R2.out.at (by simp)) (by decide) (by have := HN.out; omega)).mono ?_
  rw [H1.out]
  rintro e w3 ⟨A1, c1, rfl, rq, bq⟩
  have B3 := Lib.hid (B2.out.trans (bq.mono B2.out.size))
  have R3 := Lib.hid ((R2.out.on bq).cons rq)
  clear bq rq B2 R2
  go_wp2_with fail
  refine (HS.out none A 0 c [] l _ (RowIn.nil (Nat.zero_le _)) (R3.out.at (by simp)) (by decide) (by have := HN.out; omega)).mono ?_
  rw [H2.out]
  rintro e w4 ⟨A2, c2, rfl, rq, bq⟩
  have B4 := Lib.hid (B3.out.trans (bq.mono B3.out.size))
  have R4 := Lib.hid ((R3.out.on bq).cons rq)
  clear bq rq B3 R3
  go_wp2_with fail
  refine (HS.out A2 A' c2 c' S m _ (R4.out.at (by simp)) (R4.out.at (by simp)) (by have := HN.out; omega) (by have := HN.out; omega)).mono ?_
  rw [H3.out]
  rintro e w5 ⟨A3, c3, rfl, rq, bq⟩
  have B5 := Lib.hid (B4.out.trans (bq.mono B4.out.size))
  have R5 := Lib.hid ((R4.out.on bq).cons rq)
  clear bq rq B4 R4
  go_wp2_with fail
  go_ret
  exact ⟨rfl, B5.out⟩
set_option maxRecDepth 20000 in
set_option maxHeartbeats 4000000 in
theorem ntwice_iii0 (HSP : SpendOk) (_ : UnspendOk) (_ : FreeOk) (A A' : Option Addr) (c c' : Nat) (l m : List K32) (n : Int) (w : World) (hl : RowIn encK 32 w w.heap.size A c l) (hm : RowIn encK 32 w w.heap.size A' c' m) (_ : (Lit.int .u8 n).wf = true) (h1 : l.length ≤ 100) (h2 : m.length ≤ 100) (L S X : List K32) (hL : l ++ m = L) (hSl : S.length ≤ 100) (x1 : spendN [] L = (X, 0)) (x2 : spendN [] l = (S, 0)) (x3 : spendN S m = (X, 0)) (hl0 : l.length = 0) (hXl : X.length ≤ 200) :
    Calls Try.prog 5 #[.slice A l.length c, .slice A' m.length c', .int .u8 n] w fun e w' => e = .returned (.bool true) ∧ Below w.heap.size w w' := by
  have SH := Lib.hid (fun W => nshown_any HSP W)
  unfold SpendOk at HSP
  have HS := Lib.hid HSP
  have HN := Lib.hid (show l.length ≤ 100 ∧ m.length ≤ 100 ∧ S.length ≤ 100 ∧ L.length ≤ 200 from ⟨h1, h2, hSl, by rw [← hL, List.length_append]; omega⟩)
  have HLM := Lib.hid hL
  have H1 := Lib.hid x1
  have H2 := Lib.hid x2
  have H3 := Lib.hid x3
  have HXL := Lib.hid hXl
  have B0 := Lib.hid (Below.refl w.heap.size w)
  have R0 := Lib.hid (((KRows.nil w).cons hm).cons hl)
  have hd : decide ((100 : Int) < (l.length : Int)) = false := by simp; omega
  have hd2 : decide ((100 : Int) < (m.length : Int)) = false := by simp; omega
  have hz : ((l.length : Int) == 0) = true := by rw [hl0]; rfl
  clear HSP hl hm h1 h2 hL hSl x1 x2 x3 hl0 hXl
  go_enter Try.func5, Try.ntmps5
  go_wp2_with fail
  refine (SH.out _).mono ?_
  rintro e w1 ⟨rfl, bq⟩
  have B1 := Lib.hid (B0.out.trans (bq.mono B0.out.size))
  have R1 := Lib.hid (R0.out.on bq)
  clear bq B0 R0
  have BA := Lib.hid (B1.out.trans (((Below.refl w1.heap.size w1).alloc (Nat.le_refl _) (.cells #[] 29)).mono B1.out.size))
  have RA := Lib.hid (show KRows w1 [(A, c, l), (A', c', m)] from R1.out)
  have OA := Lib.hid (own_nil (base := w1.heap.size) (Blk.new w1 29 #[]) (Nat.le_refl _))
  clear R1
  go_wp2_with (first
      | ((with_reducible refine at_appendg 33 31 32 ?_); refine tyKy.wpList_appendIn rfl zcKy 32 zbKy (by omega) (.tmp 31) (.tmp 32) rfl w1.heap.size _ ([] : List K32) rfl OA.out _ A c l rfl ((RA.out.at (A := A) (c := c) (l := l) (by simp)).below ((Below.refl _ _).alloc (Nat.le_refl _) _)) (by have := HN.out; simp; omega) (by simp) ?_; intro v2 y2 p2 g2
         have EB2 := Lib.hid (show Below w1.heap.size w1 y2 from ((Below.refl w1.heap.size w1).alloc (Nat.le_refl _) (.cells #[] 29)).trans (own_grown OA.out g2 (by simp)))
         have O2 := Lib.hid (own_congr p2 (List.nil_append l))
         clear p2 g2)
      | ((with_reducible refine at_appendg 35 33 34 ?_); refine tyKy.wpList_appendIn rfl zcKy 32 zbKy (by omega) (.tmp 33) (.tmp 34) rfl w1.heap.size _ l rfl O2.out _ A' c' m rfl ((RA.out.at (A := A') (c := c') (l := m) (by simp)).below EB2.out) (by have := HN.out; omega) (by have := EB2.out.size; omega) ?_; intro v3 y3 p3 g3
         have EB3 := Lib.hid (show Below w1.heap.size w1 y3 from EB2.out.trans (own_grown O2.out g3 EB2.out.size))
         rw [HLM.out] at p3
         obtain ⟨Aa, ca, rfl, ra⟩ := RowIn.of_own encK_len p3
         have RX := Lib.hid (show KRows y3 [(Aa, ca, L), (A, c, l), (A', c', m)] from (RA.out.on EB3.out).cons ra)
         have BX := Lib.hid (B1.out.trans (EB3.out.mono B1.out.size))
         clear p3 g3 ra))
  obtain ⟨w2, hw⟩ : ∃ w0, y3 = w0 := ⟨_, rfl⟩
  rw [hw] at RX BX ⊢
  have R2 := RX
  have B2 := BX
  clear hw RX BX EB3 EB2 O2 OA RA BA B1
  refine (HS.out none Aa 0 ca [] L _ (RowIn.nil (Nat.zero_le _)) (R2.out.at (by simp)) (by decide) (by have := HN.out; omega)).mono ?_
  rw [H1.out]
  rintro e w3 ⟨A1, c1, rfl, rq, bq⟩
  have B3 := Lib.hid (B2.out.trans (bq.mono B2.out.size))
  have R3 := Lib.hid ((R2.out.on bq).cons rq)
  clear bq rq B2 R2
  go_wp2_with fail
  refine (HS.out none A 0 c [] l _ (RowIn.nil (Nat.zero_le _)) (R3.out.at (by simp)) (by decide) (by have := HN.out; omega)).mono ?_
  rw [H2.out]
  rintro e w4 ⟨A2, c2, rfl, rq, bq⟩
  have B4 := Lib.hid (B3.out.trans (bq.mono B3.out.size))
  have R4 := Lib.hid ((R3.out.on bq).cons rq)
  clear bq rq B3 R3
  go_wp2_with fail
  refine (HS.out A2 A' c2 c' S m _ (R4.out.at (by simp)) (R4.out.at (by simp)) (by have := HN.out; omega) (by have := HN.out; omega)).mono ?_
  rw [H3.out]
  rintro e w5 ⟨A3, c3, rfl, rq, bq⟩
  have B5 := Lib.hid (B4.out.trans (bq.mono B4.out.size))
  have R5 := Lib.hid ((R4.out.on bq).cons rq)
  clear bq rq B4 R4
  go_wp2_with fail
  refine (same_any A1 c1 X A3 c3 X _ (by have := HXL.out; omega) (by have := HXL.out; omega) (R5.out.at (by simp)) (R5.out.at (by simp))).mono ?_
  rintro e w6 ⟨rfl, bq⟩
  rw [show decide (X = X) = true from decide_eq_true rfl]
  have B6 := Lib.hid (B5.out.trans (bq.mono B5.out.size))
  have R6 := Lib.hid (R5.out.on bq)
  clear bq B5 R5
  go_wp2_with fail
  go_ret
  exact ⟨rfl, B6.out⟩
set_option maxRecDepth 20000 in
set_option maxHeartbeats 4000000 in
theorem ntwice_ii (HSP : SpendOk) (HUN : UnspendOk) (_ : FreeOk) (A A' : Option Addr) (c c' : Nat) (l m : List K32) (n : Int) (w : World) (hl : RowIn encK 32 w w.heap.size A c l) (hm : RowIn encK 32 w w.heap.size A' c' m) (hn : (Lit.int .u8 n).wf = true) (h1 : l.length ≤ 100) (h2 : m.length ≤ 100) (L S X Z : List K32) (hL : l ++ m = L) (hSl : S.length ≤ 100) (x1 : spendN [] L = (X, 161)) (x2 : spendN [] l = (S, 0)) (x3 : spendN S m = (Z, 161)) (hset : IsSet S) (hms : ∀ y ∈ l, y ∈ S) (i : Nat) (hi : i < l.length) (hmod : n.tmod (l.length : Int) = (i : Int)) :
    Calls Try.prog 5 #[.slice A l.length c, .slice A' m.length c', .int .u8 n] w fun e w' => e = .returned (.bool true) ∧ Below w.heap.size w w' := by
  have SH := Lib.hid (fun W => nshown_any HSP W)
  unfold SpendOk at HSP
  unfold UnspendOk at HUN
  have HS := Lib.hid HSP
  have HU := Lib.hid HUN
  have HST := Lib.hid hset
  have HMS := Lib.hid hms
  have HI := Lib.hid hi
  have hn1 : 0 ≤ n ∧ n < 256 := by
    simp [Lit.wf, IntKind.min, IntKind.max, IntKind.signed, IntKind.bits] at hn
    omega
  have hw1 : IntKind.i64.wrap n = n := by rw [IntKind.wrap_i64]; omega
  have hw2 : wrap64 n = n := by unfold wrap64; omega
  have hi0 : (0 : Int) ≤ (i : Int) := by omega
  have hi1 : (i : Int) < (l.length : Int) := by omega
  have hw3 : IntKind.i64.wrap (i : Int) = (i : Int) := by rw [IntKind.wrap_i64]; omega
  have hz : ((l.length : Int) == 0) = false := beq_eq_false_iff_ne.mpr (by omega)
  have hz2 : (l.length : Int) ≠ 0 := by omega
  have hz3 : ¬ l = [] := fun e => by rw [e] at hi; simp at hi
  have HN := Lib.hid (show l.length ≤ 100 ∧ m.length ≤ 100 ∧ S.length ≤ 100 ∧ L.length ≤ 200 from ⟨h1, h2, hSl, by rw [← hL, List.length_append]; omega⟩)
  have HLM := Lib.hid hL
  have H1 := Lib.hid x1
  have H2 := Lib.hid x2
  have H3 := Lib.hid x3
  have B0 := Lib.hid (Below.refl w.heap.size w)
  have R0 := Lib.hid (((KRows.nil w).cons hm).cons hl)
  have hd : decide ((100 : Int) < (l.length : Int)) = false := by simp; omega
  have hd2 : decide ((100 : Int) < (m.length : Int)) = false := by simp; omega
  clear HSP HUN hl hm h1 h2 hL hSl x1 x2 x3 hset hms hn hn1
  go_enter Try.func5, Try.ntmps5
  go_wp2_with fail
  refine (SH.out _).mono ?_
  rintro e w1 ⟨rfl, bq⟩
  have B1 := Lib.hid (B0.out.trans (bq.mono B0.out.size))
  have R1 := Lib.hid (R0.out.on bq)
  clear bq B0 R0
  have BA := Lib.hid (B1.out.trans (((Below.refl w1.heap.size w1).alloc (Nat.le_refl _) (.cells #[] 29)).mono B1.out.size))
  have RA := Lib.hid (show KRows w1 [(A, c, l), (A', c', m)] from R1.out)
  have OA := Lib.hid (own_nil (base := w1.heap.size) (Blk.new w1 29 #[]) (Nat.le_refl _))
  clear R1
  go_wp2_with (first
      | ((with_reducible refine at_appendg 33 31 32 ?_); refine tyKy.wpList_appendIn rfl zcKy 32 zbKy (by omega) (.tmp 31) (.tmp 32) rfl w1.heap.size _ ([] : List K32) rfl OA.out _ A c l rfl ((RA.out.at (A := A) (c := c) (l := l) (by simp)).below ((Below.refl _ _).alloc (Nat.le_refl _) _)) (by have := HN.out; simp; omega) (by simp) ?_; intro v2 y2 p2 g2
         have EB2 := Lib.hid (show Below w1.heap.size w1 y2 from ((Below.refl w1.heap.size w1).alloc (Nat.le_refl _) (.cells #[] 29)).trans (own_grown OA.out g2 (by simp)))
         have O2 := Lib.hid (own_congr p2 (List.nil_append l))
         clear p2 g2)
      | ((with_reducible refine at_appendg 35 33 34 ?_); refine tyKy.wpList_appendIn rfl zcKy 32 zbKy (by omega) (.tmp 33) (.tmp 34) rfl w1.heap.size _ l rfl O2.out _ A' c' m rfl ((RA.out.at (A := A') (c := c') (l := m) (by simp)).below EB2.out) (by have := HN.out; omega) (by have := EB2.out.size; omega) ?_; intro v3 y3 p3 g3
         have EB3 := Lib.hid (show Below w1.heap.size w1 y3 from EB2.out.trans (own_grown O2.out g3 EB2.out.size))
         rw [HLM.out] at p3
         obtain ⟨Aa, ca, rfl, ra⟩ := RowIn.of_own encK_len p3
         have RX := Lib.hid (show KRows y3 [(Aa, ca, L), (A, c, l), (A', c', m)] from (RA.out.on EB3.out).cons ra)
         have BX := Lib.hid (B1.out.trans (EB3.out.mono B1.out.size))
         clear p3 g3 ra))
  obtain ⟨w2, hw⟩ : ∃ w0, y3 = w0 := ⟨_, rfl⟩
  rw [hw] at RX BX ⊢
  have R2 := RX
  have B2 := BX
  clear hw RX BX EB3 EB2 O2 OA RA BA B1
  refine (HS.out none Aa 0 ca [] L _ (RowIn.nil (Nat.zero_le _)) (R2.out.at (by simp)) (by decide) (by have := HN.out; omega)).mono ?_
  rw [H1.out]
  rintro e w3 ⟨A1, c1, rfl, rq, bq⟩
  have B3 := Lib.hid (B2.out.trans (bq.mono B2.out.size))
  have R3 := Lib.hid ((R2.out.on bq).cons rq)
  clear bq rq B2 R2
  go_wp2_with fail
  refine (HS.out none A 0 c [] l _ (RowIn.nil (Nat.zero_le _)) (R3.out.at (by simp)) (by decide) (by have := HN.out; omega)).mono ?_
  rw [H2.out]
  rintro e w4 ⟨A2, c2, rfl, rq, bq⟩
  have B4 := Lib.hid (B3.out.trans (bq.mono B3.out.size))
  have R4 := Lib.hid ((R3.out.on bq).cons rq)
  clear bq rq B3 R3
  go_wp2_with fail
  refine (HS.out A2 A' c2 c' S m _ (R4.out.at (by simp)) (R4.out.at (by simp)) (by have := HN.out; omega) (by have := HN.out; omega)).mono ?_
  rw [H3.out]
  rintro e w5 ⟨A3, c3, rfl, rq, bq⟩
  have B5 := Lib.hid (B4.out.trans (bq.mono B4.out.size))
  have R5 := Lib.hid ((R4.out.on bq).cons rq)
  clear bq rq B4 R4
  obtain ⟨g, o, hA, hg, hc⟩ := (R5.out.at (A := A) (c := c) (l := l) (by simp)).at encK_len HI.out
  obtain ⟨x, hx⟩ : ∃ x, l[i]'HI.out = x := ⟨_, rfl⟩
  rw [hx] at hc
  have HC := Lib.hid (And.intro hc hg)
  have HSX := Lib.hid (show x ∈ S from HMS.out x (by rw [← hx]; exact List.getElem_mem _))
  subst hA
  clear hc hx hg
  have HK := Lib.hid (B5.out.trans (((Below.refl w5.heap.size w5).alloc (Nat.le_refl _) (.cells (cellsOf encK [x]).toArray 29)).mono B5.out.size))
  have RK := Lib.hid (R5.out.on ((Below.refl w5.heap.size w5).alloc (Nat.le_refl _) (.cells (cellsOf encK [x]).toArray 29)))
  go_wp2_with (first
      | ((with_reducible refine at_load 92 ?_); refine tyKc.wpList_load rfl (.tmp 92) rfl g (o + i * 32) rfl x HC.out.1 ?_)
      | ((with_reducible refine at_buildSlice 94 ?_); refine tyKy.wpList_build rfl nzsK 1 _ rfl [x] rfl (by omega) (by omega) (by kernel_rfl) ?_))
  refine (HS.out A2 _ c2 1 S [x] _ (RK.out.at (by simp)) (key_row (Blk.new w5 29 _) (by simp) (by decide)) (by have := HN.out; omega) (by simp)).mono ?_
  rw [again_no HSX.out]
  rintro e w6 ⟨A6, c6, rfl, _, bq⟩
  have B6 := Lib.hid (HK.out.trans (bq.mono HK.out.size))
  have R6 := Lib.hid (RK.out.on bq)
  have HC2 := Lib.hid (show RowC w6 g (o + i * 32) (encK x) ∧ g < w6.heap.size from ⟨(HC.out.1.below ((Below.refl w5.heap.size w5).alloc (Nat.le_refl _) (.cells (cellsOf encK [x]).toArray 29)) HC.out.2).below bq (by have := HC.out.2; simp; omega), Nat.lt_of_lt_of_le HC.out.2 (by have := bq.size; simp at this; omega)⟩)
  clear bq HK RK HC B5 R5
  go_wp2_with fail
  refine wp_region_held_drew (S := fun Y => RowC Y g (o + i * 32) (encK x)) (by kernel_rfl) (show RowC w6.drew g (o + i * 32) (encK x) from HC2.out.1) ?_
  intro hS
  refine wpAnyH_take (i := 0) (v := .slice A2 S.length c2) rfl (by kernel_rfl) (by kernel_rfl) (by kernel_rfl) (fun _ _ _ h => h) (Or.inl ⟨by rfl, fun W _ => by go_simp; try with_reducible rfl⟩) hS ?_
  simp only [Act.put, List.getElem_toArray, List.getElem_cons_zero, List.setIfInBounds_toArray, List.set_cons_succ, List.set_cons_zero]
  refine wpAnyH_take (i := 1) (v := .slice (some ⟨g, o, none⟩) l.length c) rfl (by kernel_rfl) (by kernel_rfl) (by kernel_rfl) (fun _ _ _ h => h) (Or.inl ⟨by rfl, fun W _ => by go_simp; try with_reducible rfl⟩) hS ?_
  simp only [Act.put, List.getElem_toArray, List.getElem_cons_zero, List.getElem_cons_succ, List.setIfInBounds_toArray, List.set_cons_succ, List.set_cons_zero]
  refine wpAnyH_take (i := 2) (v := .int .u8 n) rfl (by kernel_rfl) (by kernel_rfl) (by kernel_rfl) (fun _ _ _ h => h) (Or.inl ⟨by rfl, fun W _ => by go_simp; try with_reducible rfl⟩) hS ?_
  simp only [Act.put, List.getElem_toArray, List.getElem_cons_zero, List.getElem_cons_succ, List.setIfInBounds_toArray, List.set_cons_succ, List.set_cons_zero]
  refine wpAnyH_take (i := 3) (v := .int .i64 n) rfl (by kernel_rfl) (by kernel_rfl) (by kernel_rfl) (fun _ _ _ h => h) (Or.inl ⟨by rfl, fun W _ => by go_simp; try with_reducible rfl⟩) hS ?_
  simp only [Act.put, List.getElem_toArray, List.getElem_cons_zero, List.getElem_cons_succ, List.setIfInBounds_toArray, List.set_cons_succ, List.set_cons_zero]
  refine wpAnyH_take (i := 4) (v := .slice (some ⟨g, o, none⟩) l.length c) rfl (by kernel_rfl) (by kernel_rfl) (by kernel_rfl) (fun _ _ _ h => h) (Or.inl ⟨by rfl, fun W _ => by go_simp; try with_reducible rfl⟩) hS ?_
  simp only [Act.put, List.getElem_toArray, List.getElem_cons_zero, List.getElem_cons_succ, List.setIfInBounds_toArray, List.set_cons_succ, List.set_cons_zero]
  refine wpAnyH_take (i := 5) (v := .int .i64 l.length) rfl (by kernel_rfl) (by kernel_rfl) (by kernel_rfl) (fun _ _ _ h => h) (Or.inl ⟨by rfl, fun W _ => by go_simp; try with_reducible rfl⟩) hS ?_
  simp only [Act.put, List.getElem_toArray, List.getElem_cons_zero, List.getElem_cons_succ, List.setIfInBounds_toArray, List.set_cons_succ, List.set_cons_zero]
  refine wpAnyH_take (i := 6) (v := .int .i64 i) rfl (by kernel_rfl) (by kernel_rfl) (by kernel_rfl) (fun _ _ _ h => h) (Or.inl ⟨by rfl, fun W _ => by go_simp; try with_reducible rfl⟩) hS ?_
  simp only [Act.put, List.getElem_toArray, List.getElem_cons_zero, List.getElem_cons_succ, List.setIfInBounds_toArray, List.set_cons_succ, List.set_cons_zero]
  refine wpAnyH_take (i := 7) (v := .pointer (some ⟨g, o + i * 32, none⟩)) rfl (by kernel_rfl) (by kernel_rfl) (by kernel_rfl) (fun _ _ _ h => h) (Or.inl ⟨by rfl, fun W _ => by go_simp; try with_reducible rfl⟩) hS ?_
  simp only [Act.put, List.getElem_toArray, List.getElem_cons_zero, List.getElem_cons_succ, List.setIfInBounds_toArray, List.set_cons_succ, List.set_cons_zero]
  refine wpAnyH_take (i := 8) (v := .agg (encK x).toArray) rfl (by kernel_rfl) (by kernel_rfl) (by kernel_rfl) (fun _ _ _ h => h) (tyKc.yieldsIf_load (by rfl) (.tmp 106) rfl g (o + i * 32) rfl x (fun _ h => h)) hS ?_
  simp only [Act.put, List.getElem_toArray, List.getElem_cons_zero, List.getElem_cons_succ, List.setIfInBounds_toArray, List.set_cons_succ, List.set_cons_zero]
  refine wpAnyH_take (i := 10) (v := .slice (some ⟨g, o, none⟩) l.length c) rfl (by kernel_rfl) (by kernel_rfl) (by kernel_rfl) (fun _ _ _ h => h) (Or.inl ⟨by rfl, fun W _ => by go_simp; try with_reducible rfl⟩) hS ?_
  simp only [Act.put, List.getElem_toArray, List.getElem_cons_zero, List.getElem_cons_succ, List.setIfInBounds_toArray, List.set_cons_succ, List.set_cons_zero]
  refine wpAnyH_take (i := 11) (v := .int .u8 n) rfl (by kernel_rfl) (by kernel_rfl) (by kernel_rfl) (fun _ _ _ h => h) (Or.inl ⟨by rfl, fun W _ => by go_simp; try with_reducible rfl⟩) hS ?_
  simp only [Act.put, List.getElem_toArray, List.getElem_cons_zero, List.getElem_cons_succ, List.setIfInBounds_toArray, List.set_cons_succ, List.set_cons_zero]
  refine wpAnyH_take (i := 12) (v := .int .i64 n) rfl (by kernel_rfl) (by kernel_rfl) (by kernel_rfl) (fun _ _ _ h => h) (Or.inl ⟨by rfl, fun W _ => by go_simp; try with_reducible rfl⟩) hS ?_
  simp only [Act.put, List.getElem_toArray, List.getElem_cons_zero, List.getElem_cons_succ, List.setIfInBounds_toArray, List.set_cons_succ, List.set_cons_zero]
  refine wpAnyH_take (i := 13) (v := .slice (some ⟨g, o, none⟩) l.length c) rfl (by kernel_rfl) (by kernel_rfl) (by kernel_rfl) (fun _ _ _ h => h) (Or.inl ⟨by rfl, fun W _ => by go_simp; try with_reducible rfl⟩) hS ?_
  simp only [Act.put, List.getElem_toArray, List.getElem_cons_zero, List.getElem_cons_succ, List.setIfInBounds_toArray, List.set_cons_succ, List.set_cons_zero]
  refine wpAnyH_take (i := 14) (v := .int .i64 l.length) rfl (by kernel_rfl) (by kernel_rfl) (by kernel_rfl) (fun _ _ _ h => h) (Or.inl ⟨by rfl, fun W _ => by go_simp; try with_reducible rfl⟩) hS ?_
  simp only [Act.put, List.getElem_toArray, List.getElem_cons_zero, List.getElem_cons_succ, List.setIfInBounds_toArray, List.set_cons_succ, List.set_cons_zero]
  refine wpAnyH_take (i := 15) (v := .int .i64 i) rfl (by kernel_rfl) (by kernel_rfl) (by kernel_rfl) (fun _ _ _ h => h) (Or.inl ⟨by rfl, fun W _ => by go_simp; try with_reducible rfl⟩) hS ?_
  simp only [Act.put, List.getElem_toArray, List.getElem_cons_zero, List.getElem_cons_succ, List.setIfInBounds_toArray, List.set_cons_succ, List.set_cons_zero]
  refine wpAnyH_take (i := 16) (v := .pointer (some ⟨g, o + i * 32, none⟩)) rfl (by kernel_rfl) (by kernel_rfl) (by kernel_rfl) (fun _ _ _ h => h) (Or.inl ⟨by rfl, fun W _ => by go_simp; try with_reducible rfl⟩) hS ?_
  simp only [Act.put, List.getElem_toArray, List.getElem_cons_zero, List.getElem_cons_succ, List.setIfInBounds_toArray, List.set_cons_succ, List.set_cons_zero]
  refine wpAnyH_take (i := 17) (v := .agg (encK x).toArray) rfl (by kernel_rfl) (by kernel_rfl) (by kernel_rfl) (fun _ _ _ h => h) (tyKc.yieldsIf_load (by rfl) (.tmp 115) rfl g (o + i * 32) rfl x (fun _ h => h)) hS ?_
  simp only [Act.put, List.getElem_toArray, List.getElem_cons_zero, List.getElem_cons_succ, List.setIfInBounds_toArray, List.set_cons_succ, List.set_cons_zero]
  refine wpAnyH_ready (rs := [9, 18]) (by kernel_rfl) (by simp) ?_
  refine AllReadyH.cons rfl (fun Kq hK => ?_) (AllReadyH.cons rfl (fun Kq hK => ?_) AllReadyH.nil)
  · refine tyKy.step_build rfl nzsK 1 _ rfl [x] rfl (by omega) (by omega) (by kernel_rfl) ?_
    have C1 := Lib.hid (show RowC (w6.drew.alloc (.cells (cellsOf encK [x]).toArray 29)) g (o + i * 32) (encK x) from HC2.out.1.below ((Below.refl w6.heap.size w6).drew.alloc (Nat.le_refl _) _) HC2.out.2)
    refine hK.out _ _ C1.out (fun hS => ?_)
    clear hK Kq
    try simp only [Act.put, List.getElem_toArray, List.getElem_cons_zero, List.getElem_cons_succ, List.setIfInBounds_toArray, List.set_cons_succ, List.set_cons_zero]
    refine wpAnyH_ready (rs := [18]) (by kernel_rfl) (by simp) ?_
    refine AllReadyH.cons rfl (fun Kq hK => ?_) AllReadyH.nil
    refine tyKy.step_build rfl nzsK 1 _ rfl [x] rfl (by omega) (by omega) (by kernel_rfl) ?_
    have C2 := Lib.hid (show RowC ((w6.drew.alloc (.cells (cellsOf encK [x]).toArray 29)).alloc (.cells (cellsOf encK [x]).toArray 29)) g (o + i * 32) (encK x) from C1.out.below ((Below.refl _ _).alloc (Nat.le_refl _) _) (by have := HC2.out.2; simp; exact Nat.lt_succ_of_lt this))
    have KA := Lib.hid (show Blk ((w6.drew.alloc (.cells (cellsOf encK [x]).toArray 29)).alloc (.cells (cellsOf encK [x]).toArray 29)) w6.heap.size 29 (cellsOf encK [x]).toArray from (Blk.new w6 29 (cellsOf encK [x]).toArray).alloc _)
    have KB := Lib.hid (show Blk ((w6.drew.alloc (.cells (cellsOf encK [x]).toArray 29)).alloc (.cells (cellsOf encK [x]).toArray 29)) (w6.drew.alloc (.cells (cellsOf encK [x]).toArray 29)).heap.size 29 (cellsOf encK [x]).toArray from Blk.new (w6.drew.alloc (.cells (cellsOf encK [x]).toArray 29)) 29 _)
    have E2 := Lib.hid (show Below w6.heap.size w6 ((w6.drew.alloc (.cells (cellsOf encK [x]).toArray 29)).alloc (.cells (cellsOf encK [x]).toArray 29)) from ((Below.refl w6.heap.size w6).drew.alloc (Nat.le_refl _) _).alloc (by simp) _)
    refine hK.out _ _ C2.out (fun hS => ?_)
    clear hK Kq
    try simp only [Act.put, List.getElem_toArray, List.getElem_cons_zero, List.getElem_cons_succ, List.setIfInBounds_toArray, List.set_cons_succ, List.set_cons_zero]
    refine wpAnyH_ready (rs := [19]) (by kernel_rfl) (by simp) ?_
    refine AllReadyH.cons rfl (fun Kq hK => ?_) AllReadyH.nil
    refine tyKy.step_append rfl zcKy 32 zbKy (by omega) (.tmp 108) (.tmp 117) rfl w6.heap.size _ [x] rfl (own_of_blk (n := 1) (g := w6.drew.heap.size) KA.out (by simp) rfl (by decide)) _ (some ⟨(w6.drew.alloc (.cells (cellsOf encK [x]).toArray 29)).heap.size, 0, none⟩) 1 [x] rfl (rowIn_blk KB.out (by simp) (by decide)) (by simp) (by simp; try omega) ?_
    intro v5 y5 p5 g5
    have E5 := Lib.hid (E2.out.trans (own_grown (own_of_blk (n := 1) (g := w6.drew.heap.size) KA.out (by simp) (show [x].length = 1 from rfl) (by decide)) g5 (by simp; try omega)))
    obtain ⟨A7, c7, rfl, r7⟩ := RowIn.of_own encK_len p5
    have RZ7 := Lib.hid (show RowIn encK 32 y5 y5.heap.size A7 c7 [x, x] from r7)
    refine hK.out _ _ (HC2.out.1.below E5.out HC2.out.2) (fun hS => ?_)
    clear hK Kq p5 g5 r7 C1 C2 KA KB E2
    try simp only [Act.put, List.getElem_toArray, List.getElem_cons_zero, List.getElem_cons_succ, List.setIfInBounds_toArray, List.set_cons_succ, List.set_cons_zero]
    refine wpAnyH_ready (rs := [20]) (by kernel_rfl) (by simp) ?_
    refine AllReadyH.cons rfl (fun Kq hK => ?_) AllReadyH.nil
    go_simp
    refine (HU.out A2 A7 c2 c7 S [x, x] _ ((R6.out.on E5.out).at (by simp)) RZ7.out (by have := HN.out; omega) (by simp)).mono ?_
    rw [undo_no HSX.out HST.out]
    rintro e y6 ⟨A8, c8, rfl, _, bq⟩
    have E6 := Lib.hid (E5.out.trans (bq.mono E5.out.size))
    have BZ := Lib.hid (B6.out.trans (E6.out.mono B6.out.size))
    refine hK.out _ _ (HC2.out.1.below E6.out HC2.out.2) (fun hS => ?_)
    clear hK Kq bq
    refine wpAnyH_take (i := 21) (v := .tuple #[.slice A8 0 c8, .int .i64 3]) rfl (by kernel_rfl) (by kernel_rfl) (by kernel_rfl) (fun _ _ _ h => h) (Or.inl ⟨by rfl, fun W _ => by go_simp; try with_reducible rfl⟩) hS ?_
    simp only [Act.put, List.getElem_toArray, List.getElem_cons_zero, List.getElem_cons_succ, List.setIfInBounds_toArray, List.set_cons_succ, List.set_cons_zero]
    refine wpAnyH_take (i := 22) (v := .slice A8 0 c8) rfl (by kernel_rfl) (by kernel_rfl) (by kernel_rfl) (fun _ _ _ h => h) (Or.inl ⟨by rfl, fun W _ => by go_simp; try with_reducible rfl⟩) hS ?_
    simp only [Act.put, List.getElem_toArray, List.getElem_cons_zero, List.getElem_cons_succ, List.setIfInBounds_toArray, List.set_cons_succ, List.set_cons_zero]
    refine wpAnyH_take (i := 23) (v := .int .i64 3) rfl (by kernel_rfl) (by kernel_rfl) (by kernel_rfl) (fun _ _ _ h => h) (Or.inl ⟨by rfl, fun W _ => by go_simp; try with_reducible rfl⟩) hS ?_
    simp only [Act.put, List.getElem_toArray, List.getElem_cons_zero, List.getElem_cons_succ, List.setIfInBounds_toArray, List.set_cons_succ, List.set_cons_zero]
    refine wpAnyH_take (i := 24) (v := .slice A8 0 c8) rfl (by kernel_rfl) (by kernel_rfl) (by kernel_rfl) (fun _ _ _ h => h) (Or.inl ⟨by rfl, fun W _ => by go_simp; try with_reducible rfl⟩) hS ?_
    simp only [Act.put, List.getElem_toArray, List.getElem_cons_zero, List.getElem_cons_succ, List.setIfInBounds_toArray, List.set_cons_succ, List.set_cons_zero]
    refine wpAnyH_take (i := 25) (v := .int .i64 3) rfl (by kernel_rfl) (by kernel_rfl) (by kernel_rfl) (fun _ _ _ h => h) (Or.inl ⟨by rfl, fun W _ => by go_simp; try with_reducible rfl⟩) hS ?_
    simp only [Act.put, List.getElem_toArray, List.getElem_cons_zero, List.getElem_cons_succ, List.setIfInBounds_toArray, List.set_cons_succ, List.set_cons_zero]
    refine wpAnyH_done (by kernel_rfl) ?_ _
    clear hS
    go_wp2_with fail
    go_ret
    exact ⟨rfl, BZ.out⟩
  · refine tyKy.step_build rfl nzsK 1 _ rfl [x] rfl (by omega) (by omega) (by kernel_rfl) ?_
    have C1 := Lib.hid (show RowC (w6.drew.alloc (.cells (cellsOf encK [x]).toArray 29)) g (o + i * 32) (encK x) from HC2.out.1.below ((Below.refl w6.heap.size w6).drew.alloc (Nat.le_refl _) _) HC2.out.2)
    refine hK.out _ _ C1.out (fun hS => ?_)
    clear hK Kq
    try simp only [Act.put, List.getElem_toArray, List.getElem_cons_zero, List.getElem_cons_succ, List.setIfInBounds_toArray, List.set_cons_succ, List.set_cons_zero]
    refine wpAnyH_ready (rs := [9]) (by kernel_rfl) (by simp) ?_
    refine AllReadyH.cons rfl (fun Kq hK => ?_) AllReadyH.nil
    refine tyKy.step_build rfl nzsK 1 _ rfl [x] rfl (by omega) (by omega) (by kernel_rfl) ?_
    have C2 := Lib.hid (show RowC ((w6.drew.alloc (.cells (cellsOf encK [x]).toArray 29)).alloc (.cells (cellsOf encK [x]).toArray 29)) g (o + i * 32) (encK x) from C1.out.below ((Below.refl _ _).alloc (Nat.le_refl _) _) (by have := HC2.out.2; simp; exact Nat.lt_succ_of_lt this))
    have KA := Lib.hid (show Blk ((w6.drew.alloc (.cells (cellsOf encK [x]).toArray 29)).alloc (.cells (cellsOf encK [x]).toArray 29)) w6.heap.size 29 (cellsOf encK [x]).toArray from (Blk.new w6 29 (cellsOf encK [x]).toArray).alloc _)
    have KB := Lib.hid (show Blk ((w6.drew.alloc (.cells (cellsOf encK [x]).toArray 29)).alloc (.cells (cellsOf encK [x]).toArray 29)) (w6.drew.alloc (.cells (cellsOf encK [x]).toArray 29)).heap.size 29 (cellsOf encK [x]).toArray from Blk.new (w6.drew.alloc (.cells (cellsOf encK [x]).toArray 29)) 29 _)
    have E2 := Lib.hid (show Below w6.heap.size w6 ((w6.drew.alloc (.cells (cellsOf encK [x]).toArray 29)).alloc (.cells (cellsOf encK [x]).toArray 29)) from ((Below.refl w6.heap.size w6).drew.alloc (Nat.le_refl _) _).alloc (by simp) _)
    refine hK.out _ _ C2.out (fun hS => ?_)
    clear hK Kq
    try simp only [Act.put, List.getElem_toArray, List.getElem_cons_zero, List.getElem_cons_succ, List.setIfInBounds_toArray, List.set_cons_succ, List.set_cons_zero]
    refine wpAnyH_ready (rs := [19]) (by kernel_rfl) (by simp) ?_
    refine AllReadyH.cons rfl (fun Kq hK => ?_) AllReadyH.nil
    refine tyKy.step_append rfl zcKy 32 zbKy (by omega) (.tmp 108) (.tmp 117) rfl w6.heap.size _ [x] rfl (own_of_blk (n := 1) (g := (w6.drew.alloc (.cells (cellsOf encK [x]).toArray 29)).heap.size) KB.out (by simp) rfl (by decide)) _ (some ⟨w6.drew.heap.size, 0, none⟩) 1 [x] rfl (rowIn_blk KA.out (by simp) (by decide)) (by simp) (by simp; try omega) ?_
    intro v5 y5 p5 g5
    have E5 := Lib.hid (E2.out.trans (own_grown (own_of_blk (n := 1) (g := (w6.drew.alloc (.cells (cellsOf encK [x]).toArray 29)).heap.size) KB.out (by simp) (show [x].length = 1 from rfl) (by decide)) g5 (by simp; try omega)))
    obtain ⟨A7, c7, rfl, r7⟩ := RowIn.of_own encK_len p5
    have RZ7 := Lib.hid (show RowIn encK 32 y5 y5.heap.size A7 c7 [x, x] from r7)
    refine hK.out _ _ (HC2.out.1.below E5.out HC2.out.2) (fun hS => ?_)
    clear hK Kq p5 g5 r7 C1 C2 KA KB E2
    try simp only [Act.put, List.getElem_toArray, List.getElem_cons_zero, List.getElem_cons_succ, List.setIfInBounds_toArray, List.set_cons_succ, List.set_cons_zero]
    refine wpAnyH_ready (rs := [20]) (by kernel_rfl) (by simp) ?_
    refine AllReadyH.cons rfl (fun Kq hK => ?_) AllReadyH.nil
    go_simp
    refine (HU.out A2 A7 c2 c7 S [x, x] _ ((R6.out.on E5.out).at (by simp)) RZ7.out (by have := HN.out; omega) (by simp)).mono ?_
    rw [undo_no HSX.out HST.out]
    rintro e y6 ⟨A8, c8, rfl, _, bq⟩
    have E6 := Lib.hid (E5.out.trans (bq.mono E5.out.size))
    have BZ := Lib.hid (B6.out.trans (E6.out.mono B6.out.size))
    refine hK.out _ _ (HC2.out.1.below E6.out HC2.out.2) (fun hS => ?_)
    clear hK Kq bq
    refine wpAnyH_take (i := 21) (v := .tuple #[.slice A8 0 c8, .int .i64 3]) rfl (by kernel_rfl) (by kernel_rfl) (by kernel_rfl) (fun _ _ _ h => h) (Or.inl ⟨by rfl, fun W _ => by go_simp; try with_reducible rfl⟩) hS ?_
    simp only [Act.put, List.getElem_toArray, List.getElem_cons_zero, List.getElem_cons_succ, List.setIfInBounds_toArray, List.set_cons_succ, List.set_cons_zero]
    refine wpAnyH_take (i := 22) (v := .slice A8 0 c8) rfl (by kernel_rfl) (by kernel_rfl) (by kernel_rfl) (fun _ _ _ h => h) (Or.inl ⟨by rfl, fun W _ => by go_simp; try with_reducible rfl⟩) hS ?_
    simp only [Act.put, List.getElem_toArray, List.getElem_cons_zero, List.getElem_cons_succ, List.setIfInBounds_toArray, List.set_cons_succ, List.set_cons_zero]
    refine wpAnyH_take (i := 23) (v := .int .i64 3) rfl (by kernel_rfl) (by kernel_rfl) (by kernel_rfl) (fun _ _ _ h => h) (Or.inl ⟨by rfl, fun W _ => by go_simp; try with_reducible rfl⟩) hS ?_
    simp only [Act.put, List.getElem_toArray, List.getElem_cons_zero, List.getElem_cons_succ, List.setIfInBounds_toArray, List.set_cons_succ, List.set_cons_zero]
    refine wpAnyH_take (i := 24) (v := .slice A8 0 c8) rfl (by kernel_rfl) (by kernel_rfl) (by kernel_rfl) (fun _ _ _ h => h) (Or.inl ⟨by rfl, fun W _ => by go_simp; try with_reducible rfl⟩) hS ?_
    simp only [Act.put, List.getElem_toArray, List.getElem_cons_zero, List.getElem_cons_succ, List.setIfInBounds_toArray, List.set_cons_succ, List.set_cons_zero]
    refine wpAnyH_take (i := 25) (v := .int .i64 3) rfl (by kernel_rfl) (by kernel_rfl) (by kernel_rfl) (fun _ _ _ h => h) (Or.inl ⟨by rfl, fun W _ => by go_simp; try with_reducible rfl⟩) hS ?_
    simp only [Act.put, List.getElem_toArray, List.getElem_cons_zero, List.getElem_cons_succ, List.setIfInBounds_toArray, List.set_cons_succ, List.set_cons_zero]
    refine wpAnyH_done (by kernel_rfl) ?_ _
    clear hS
    go_wp2_with fail
    go_ret
    exact ⟨rfl, BZ.out⟩
set_option maxRecDepth 20000 in
set_option maxHeartbeats 4000000 in
theorem ntwice_iii (HSP : SpendOk) (HUN : UnspendOk) (_ : FreeOk) (A A' : Option Addr) (c c' : Nat) (l m : List K32) (n : Int) (w : World) (hl : RowIn encK 32 w w.heap.size A c l) (hm : RowIn encK 32 w w.heap.size A' c' m) (hn : (Lit.int .u8 n).wf = true) (h1 : l.length ≤ 100) (h2 : m.length ≤ 100) (L S X : List K32) (hL : l ++ m = L) (hSl : S.length ≤ 100) (x1 : spendN [] L = (X, 0)) (x2 : spendN [] l = (S, 0)) (x3 : spendN S m = (X, 0)) (hset : IsSet S) (hms : ∀ y ∈ l, y ∈ S) (i : Nat) (hi : i < l.length) (hmod : n.tmod (l.length : Int) = (i : Int)) (hXl : X.length ≤ 200) :
    Calls Try.prog 5 #[.slice A l.length c, .slice A' m.length c', .int .u8 n] w fun e w' => e = .returned (.bool true) ∧ Below w.heap.size w w' := by
  have SH := Lib.hid (fun W => nshown_any HSP W)
  unfold SpendOk at HSP
  unfold UnspendOk at HUN
  have HS := Lib.hid HSP
  have HU := Lib.hid HUN
  have HST := Lib.hid hset
  have HMS := Lib.hid hms
  have HI := Lib.hid hi
  have hn1 : 0 ≤ n ∧ n < 256 := by
    simp [Lit.wf, IntKind.min, IntKind.max, IntKind.signed, IntKind.bits] at hn
    omega
  have hw1 : IntKind.i64.wrap n = n := by rw [IntKind.wrap_i64]; omega
  have hw2 : wrap64 n = n := by unfold wrap64; omega
  have hi0 : (0 : Int) ≤ (i : Int) := by omega
  have hi1 : (i : Int) < (l.length : Int) := by omega
  have hw3 : IntKind.i64.wrap (i : Int) = (i : Int) := by rw [IntKind.wrap_i64]; omega
  have hz : ((l.length : Int) == 0) = false := beq_eq_false_iff_ne.mpr (by omega)
  have hz2 : (l.length : Int) ≠ 0 := by omega
  have hz3 : ¬ l = [] := fun e => by rw [e] at hi; simp at hi
  have HN := Lib.hid (show l.length ≤ 100 ∧ m.length ≤ 100 ∧ S.length ≤ 100 ∧ L.length ≤ 200 from ⟨h1, h2, hSl, by rw [← hL, List.length_append]; omega⟩)
  have HLM := Lib.hid hL
  have H1 := Lib.hid x1
  have H2 := Lib.hid x2
  have H3 := Lib.hid x3
  have HXL := Lib.hid hXl
  have B0 := Lib.hid (Below.refl w.heap.size w)
  have R0 := Lib.hid (((KRows.nil w).cons hm).cons hl)
  have hd : decide ((100 : Int) < (l.length : Int)) = false := by simp; omega
  have hd2 : decide ((100 : Int) < (m.length : Int)) = false := by simp; omega
  clear HSP HUN hl hm h1 h2 hL hSl x1 x2 x3 hset hms hn hn1 hXl
  go_enter Try.func5, Try.ntmps5
  go_wp2_with fail
  refine (SH.out _).mono ?_
  rintro e w1 ⟨rfl, bq⟩
  have B1 := Lib.hid (B0.out.trans (bq.mono B0.out.size))
  have R1 := Lib.hid (R0.out.on bq)
  clear bq B0 R0
  have BA := Lib.hid (B1.out.trans (((Below.refl w1.heap.size w1).alloc (Nat.le_refl _) (.cells #[] 29)).mono B1.out.size))
  have RA := Lib.hid (show KRows w1 [(A, c, l), (A', c', m)] from R1.out)
  have OA := Lib.hid (own_nil (base := w1.heap.size) (Blk.new w1 29 #[]) (Nat.le_refl _))
  clear R1
  go_wp2_with (first
      | ((with_reducible refine at_appendg 33 31 32 ?_); refine tyKy.wpList_appendIn rfl zcKy 32 zbKy (by omega) (.tmp 31) (.tmp 32) rfl w1.heap.size _ ([] : List K32) rfl OA.out _ A c l rfl ((RA.out.at (A := A) (c := c) (l := l) (by simp)).below ((Below.refl _ _).alloc (Nat.le_refl _) _)) (by have := HN.out; simp; omega) (by simp) ?_; intro v2 y2 p2 g2
         have EB2 := Lib.hid (show Below w1.heap.size w1 y2 from ((Below.refl w1.heap.size w1).alloc (Nat.le_refl _) (.cells #[] 29)).trans (own_grown OA.out g2 (by simp)))
         have O2 := Lib.hid (own_congr p2 (List.nil_append l))
         clear p2 g2)
      | ((with_reducible refine at_appendg 35 33 34 ?_); refine tyKy.wpList_appendIn rfl zcKy 32 zbKy (by omega) (.tmp 33) (.tmp 34) rfl w1.heap.size _ l rfl O2.out _ A' c' m rfl ((RA.out.at (A := A') (c := c') (l := m) (by simp)).below EB2.out) (by have := HN.out; omega) (by have := EB2.out.size; omega) ?_; intro v3 y3 p3 g3
         have EB3 := Lib.hid (show Below w1.heap.size w1 y3 from EB2.out.trans (own_grown O2.out g3 EB2.out.size))
         rw [HLM.out] at p3
         obtain ⟨Aa, ca, rfl, ra⟩ := RowIn.of_own encK_len p3
         have RX := Lib.hid (show KRows y3 [(Aa, ca, L), (A, c, l), (A', c', m)] from (RA.out.on EB3.out).cons ra)
         have BX := Lib.hid (B1.out.trans (EB3.out.mono B1.out.size))
         clear p3 g3 ra))
  obtain ⟨w2, hw⟩ : ∃ w0, y3 = w0 := ⟨_, rfl⟩
  rw [hw] at RX BX ⊢
  have R2 := RX
  have B2 := BX
  clear hw RX BX EB3 EB2 O2 OA RA BA B1
  refine (HS.out none Aa 0 ca [] L _ (RowIn.nil (Nat.zero_le _)) (R2.out.at (by simp)) (by decide) (by have := HN.out; omega)).mono ?_
  rw [H1.out]
  rintro e w3 ⟨A1, c1, rfl, rq, bq⟩
  have B3 := Lib.hid (B2.out.trans (bq.mono B2.out.size))
  have R3 := Lib.hid ((R2.out.on bq).cons rq)
  clear bq rq B2 R2
  go_wp2_with fail
  refine (HS.out none A 0 c [] l _ (RowIn.nil (Nat.zero_le _)) (R3.out.at (by simp)) (by decide) (by have := HN.out; omega)).mono ?_
  rw [H2.out]
  rintro e w4 ⟨A2, c2, rfl, rq, bq⟩
  have B4 := Lib.hid (B3.out.trans (bq.mono B3.out.size))
  have R4 := Lib.hid ((R3.out.on bq).cons rq)
  clear bq rq B3 R3
  go_wp2_with fail
  refine (HS.out A2 A' c2 c' S m _ (R4.out.at (by simp)) (R4.out.at (by simp)) (by have := HN.out; omega) (by have := HN.out; omega)).mono ?_
  rw [H3.out]
  rintro e w5 ⟨A3, c3, rfl, rq, bq⟩
  have B5 := Lib.hid (B4.out.trans (bq.mono B4.out.size))
  have R5 := Lib.hid ((R4.out.on bq).cons rq)
  clear bq rq B4 R4
  go_wp2_with fail
  refine (same_any A1 c1 X A3 c3 X _ (by have := HXL.out; omega) (by have := HXL.out; omega) (R5.out.at (by simp)) (R5.out.at (by simp))).mono ?_
  rintro e w6 ⟨rfl, bq⟩
  rw [show decide (X = X) = true from decide_eq_true rfl]
  have B6 := Lib.hid (B5.out.trans (bq.mono B5.out.size))
  have R6 := Lib.hid (R5.out.on bq)
  clear bq B5 R5
  obtain ⟨g, o, hA, hg, hc⟩ := (R6.out.at (A := A) (c := c) (l := l) (by simp)).at encK_len HI.out
  obtain ⟨x, hx⟩ : ∃ x, l[i]'HI.out = x := ⟨_, rfl⟩
  rw [hx] at hc
  have HC := Lib.hid (And.intro hc hg)
  have HSX := Lib.hid (show x ∈ S from HMS.out x (by rw [← hx]; exact List.getElem_mem _))
  subst hA
  clear hc hx hg
  have HK := Lib.hid (B6.out.trans (((Below.refl w6.heap.size w6).alloc (Nat.le_refl _) (.cells (cellsOf encK [x]).toArray 29)).mono B6.out.size))
  have RK := Lib.hid (R6.out.on ((Below.refl w6.heap.size w6).alloc (Nat.le_refl _) (.cells (cellsOf encK [x]).toArray 29)))
  go_wp2_with (first
      | ((with_reducible refine at_load 92 ?_); refine tyKc.wpList_load rfl (.tmp 92) rfl g (o + i * 32) rfl x HC.out.1 ?_)
      | ((with_reducible refine at_buildSlice 94 ?_); refine tyKy.wpList_build rfl nzsK 1 _ rfl [x] rfl (by omega) (by omega) (by kernel_rfl) ?_))
  refine (HS.out A2 _ c2 1 S [x] _ (RK.out.at (by simp)) (key_row (Blk.new w6 29 _) (by simp) (by decide)) (by have := HN.out; omega) (by simp)).mono ?_
  rw [again_no HSX.out]
  rintro e w7 ⟨A6, c6, rfl, _, bq⟩
  have B7 := Lib.hid (HK.out.trans (bq.mono HK.out.size))
  have R7 := Lib.hid (RK.out.on bq)
  have HC2 := Lib.hid (show RowC w7 g (o + i * 32) (encK x) ∧ g < w7.heap.size from ⟨(HC.out.1.below ((Below.refl w6.heap.size w6).alloc (Nat.le_refl _) (.cells (cellsOf encK [x]).toArray 29)) HC.out.2).below bq (by have := HC.out.2; simp; omega), Nat.lt_of_lt_of_le HC.out.2 (by have := bq.size; simp at this; omega)⟩)
  clear bq HK RK HC B6 R6
  go_wp2_with fail
  refine wp_region_held_drew (S := fun Y => RowC Y g (o + i * 32) (encK x)) (by kernel_rfl) (show RowC w7.drew g (o + i * 32) (encK x) from HC2.out.1) ?_
  intro hS
  refine wpAnyH_take (i := 0) (v := .slice A2 S.length c2) rfl (by kernel_rfl) (by kernel_rfl) (by kernel_rfl) (fun _ _ _ h => h) (Or.inl ⟨by rfl, fun W _ => by go_simp; try with_reducible rfl⟩) hS ?_
  simp only [Act.put, List.getElem_toArray, List.getElem_cons_zero, List.setIfInBounds_toArray, List.set_cons_succ, List.set_cons_zero]
  refine wpAnyH_take (i := 1) (v := .slice (some ⟨g, o, none⟩) l.length c) rfl (by kernel_rfl) (by kernel_rfl) (by kernel_rfl) (fun _ _ _ h => h) (Or.inl ⟨by rfl, fun W _ => by go_simp; try with_reducible rfl⟩) hS ?_
  simp only [Act.put, List.getElem_toArray, List.getElem_cons_zero, List.getElem_cons_succ, List.setIfInBounds_toArray, List.set_cons_succ, List.set_cons_zero]
  refine wpAnyH_take (i := 2) (v := .int .u8 n) rfl (by kernel_rfl) (by kernel_rfl) (by kernel_rfl) (fun _ _ _ h => h) (Or.inl ⟨by rfl, fun W _ => by go_simp; try with_reducible rfl⟩) hS ?_
  simp only [Act.put, List.getElem_toArray, List.getElem_cons_zero, List.getElem_cons_succ, List.setIfInBounds_toArray, List.set_cons_succ, List.set_cons_zero]
  refine wpAnyH_take (i := 3) (v := .int .i64 n) rfl (by kernel_rfl) (by kernel_rfl) (by kernel_rfl) (fun _ _ _ h => h) (Or.inl ⟨by rfl, fun W _ => by go_simp; try with_reducible rfl⟩) hS ?_
  simp only [Act.put, List.getElem_toArray, List.getElem_cons_zero, List.getElem_cons_succ, List.setIfInBounds_toArray, List.set_cons_succ, List.set_cons_zero]
  refine wpAnyH_take (i := 4) (v := .slice (some ⟨g, o, none⟩) l.length c) rfl (by kernel_rfl) (by kernel_rfl) (by kernel_rfl) (fun _ _ _ h => h) (Or.inl ⟨by rfl, fun W _ => by go_simp; try with_reducible rfl⟩) hS ?_
  simp only [Act.put, List.getElem_toArray, List.getElem_cons_zero, List.getElem_cons_succ, List.setIfInBounds_toArray, List.set_cons_succ, List.set_cons_zero]
  refine wpAnyH_take (i := 5) (v := .int .i64 l.length) rfl (by kernel_rfl) (by kernel_rfl) (by kernel_rfl) (fun _ _ _ h => h) (Or.inl ⟨by rfl, fun W _ => by go_simp; try with_reducible rfl⟩) hS ?_
  simp only [Act.put, List.getElem_toArray, List.getElem_cons_zero, List.getElem_cons_succ, List.setIfInBounds_toArray, List.set_cons_succ, List.set_cons_zero]
  refine wpAnyH_take (i := 6) (v := .int .i64 i) rfl (by kernel_rfl) (by kernel_rfl) (by kernel_rfl) (fun _ _ _ h => h) (Or.inl ⟨by rfl, fun W _ => by go_simp; try with_reducible rfl⟩) hS ?_
  simp only [Act.put, List.getElem_toArray, List.getElem_cons_zero, List.getElem_cons_succ, List.setIfInBounds_toArray, List.set_cons_succ, List.set_cons_zero]
  refine wpAnyH_take (i := 7) (v := .pointer (some ⟨g, o + i * 32, none⟩)) rfl (by kernel_rfl) (by kernel_rfl) (by kernel_rfl) (fun _ _ _ h => h) (Or.inl ⟨by rfl, fun W _ => by go_simp; try with_reducible rfl⟩) hS ?_
  simp only [Act.put, List.getElem_toArray, List.getElem_cons_zero, List.getElem_cons_succ, List.setIfInBounds_toArray, List.set_cons_succ, List.set_cons_zero]
  refine wpAnyH_take (i := 8) (v := .agg (encK x).toArray) rfl (by kernel_rfl) (by kernel_rfl) (by kernel_rfl) (fun _ _ _ h => h) (tyKc.yieldsIf_load (by rfl) (.tmp 106) rfl g (o + i * 32) rfl x (fun _ h => h)) hS ?_
  simp only [Act.put, List.getElem_toArray, List.getElem_cons_zero, List.getElem_cons_succ, List.setIfInBounds_toArray, List.set_cons_succ, List.set_cons_zero]
  refine wpAnyH_take (i := 10) (v := .slice (some ⟨g, o, none⟩) l.length c) rfl (by kernel_rfl) (by kernel_rfl) (by kernel_rfl) (fun _ _ _ h => h) (Or.inl ⟨by rfl, fun W _ => by go_simp; try with_reducible rfl⟩) hS ?_
  simp only [Act.put, List.getElem_toArray, List.getElem_cons_zero, List.getElem_cons_succ, List.setIfInBounds_toArray, List.set_cons_succ, List.set_cons_zero]
  refine wpAnyH_take (i := 11) (v := .int .u8 n) rfl (by kernel_rfl) (by kernel_rfl) (by kernel_rfl) (fun _ _ _ h => h) (Or.inl ⟨by rfl, fun W _ => by go_simp; try with_reducible rfl⟩) hS ?_
  simp only [Act.put, List.getElem_toArray, List.getElem_cons_zero, List.getElem_cons_succ, List.setIfInBounds_toArray, List.set_cons_succ, List.set_cons_zero]
  refine wpAnyH_take (i := 12) (v := .int .i64 n) rfl (by kernel_rfl) (by kernel_rfl) (by kernel_rfl) (fun _ _ _ h => h) (Or.inl ⟨by rfl, fun W _ => by go_simp; try with_reducible rfl⟩) hS ?_
  simp only [Act.put, List.getElem_toArray, List.getElem_cons_zero, List.getElem_cons_succ, List.setIfInBounds_toArray, List.set_cons_succ, List.set_cons_zero]
  refine wpAnyH_take (i := 13) (v := .slice (some ⟨g, o, none⟩) l.length c) rfl (by kernel_rfl) (by kernel_rfl) (by kernel_rfl) (fun _ _ _ h => h) (Or.inl ⟨by rfl, fun W _ => by go_simp; try with_reducible rfl⟩) hS ?_
  simp only [Act.put, List.getElem_toArray, List.getElem_cons_zero, List.getElem_cons_succ, List.setIfInBounds_toArray, List.set_cons_succ, List.set_cons_zero]
  refine wpAnyH_take (i := 14) (v := .int .i64 l.length) rfl (by kernel_rfl) (by kernel_rfl) (by kernel_rfl) (fun _ _ _ h => h) (Or.inl ⟨by rfl, fun W _ => by go_simp; try with_reducible rfl⟩) hS ?_
  simp only [Act.put, List.getElem_toArray, List.getElem_cons_zero, List.getElem_cons_succ, List.setIfInBounds_toArray, List.set_cons_succ, List.set_cons_zero]
  refine wpAnyH_take (i := 15) (v := .int .i64 i) rfl (by kernel_rfl) (by kernel_rfl) (by kernel_rfl) (fun _ _ _ h => h) (Or.inl ⟨by rfl, fun W _ => by go_simp; try with_reducible rfl⟩) hS ?_
  simp only [Act.put, List.getElem_toArray, List.getElem_cons_zero, List.getElem_cons_succ, List.setIfInBounds_toArray, List.set_cons_succ, List.set_cons_zero]
  refine wpAnyH_take (i := 16) (v := .pointer (some ⟨g, o + i * 32, none⟩)) rfl (by kernel_rfl) (by kernel_rfl) (by kernel_rfl) (fun _ _ _ h => h) (Or.inl ⟨by rfl, fun W _ => by go_simp; try with_reducible rfl⟩) hS ?_
  simp only [Act.put, List.getElem_toArray, List.getElem_cons_zero, List.getElem_cons_succ, List.setIfInBounds_toArray, List.set_cons_succ, List.set_cons_zero]
  refine wpAnyH_take (i := 17) (v := .agg (encK x).toArray) rfl (by kernel_rfl) (by kernel_rfl) (by kernel_rfl) (fun _ _ _ h => h) (tyKc.yieldsIf_load (by rfl) (.tmp 115) rfl g (o + i * 32) rfl x (fun _ h => h)) hS ?_
  simp only [Act.put, List.getElem_toArray, List.getElem_cons_zero, List.getElem_cons_succ, List.setIfInBounds_toArray, List.set_cons_succ, List.set_cons_zero]
  refine wpAnyH_ready (rs := [9, 18]) (by kernel_rfl) (by simp) ?_
  refine AllReadyH.cons rfl (fun Kq hK => ?_) (AllReadyH.cons rfl (fun Kq hK => ?_) AllReadyH.nil)
  · refine tyKy.step_build rfl nzsK 1 _ rfl [x] rfl (by omega) (by omega) (by kernel_rfl) ?_
    have C1 := Lib.hid (show RowC (w7.drew.alloc (.cells (cellsOf encK [x]).toArray 29)) g (o + i * 32) (encK x) from HC2.out.1.below ((Below.refl w7.heap.size w7).drew.alloc (Nat.le_refl _) _) HC2.out.2)
    refine hK.out _ _ C1.out (fun hS => ?_)
    clear hK Kq
    try simp only [Act.put, List.getElem_toArray, List.getElem_cons_zero, List.getElem_cons_succ, List.setIfInBounds_toArray, List.set_cons_succ, List.set_cons_zero]
    refine wpAnyH_ready (rs := [18]) (by kernel_rfl) (by simp) ?_
    refine AllReadyH.cons rfl (fun Kq hK => ?_) AllReadyH.nil
    refine tyKy.step_build rfl nzsK 1 _ rfl [x] rfl (by omega) (by omega) (by kernel_rfl) ?_
    have C2 := Lib.hid (show RowC ((w7.drew.alloc (.cells (cellsOf encK [x]).toArray 29)).alloc (.cells (cellsOf encK [x]).toArray 29)) g (o + i * 32) (encK x) from C1.out.below ((Below.refl _ _).alloc (Nat.le_refl _) _) (by have := HC2.out.2; simp; exact Nat.lt_succ_of_lt this))
    have KA := Lib.hid (show Blk ((w7.drew.alloc (.cells (cellsOf encK [x]).toArray 29)).alloc (.cells (cellsOf encK [x]).toArray 29)) w7.heap.size 29 (cellsOf encK [x]).toArray from (Blk.new w7 29 (cellsOf encK [x]).toArray).alloc _)
    have KB := Lib.hid (show Blk ((w7.drew.alloc (.cells (cellsOf encK [x]).toArray 29)).alloc (.cells (cellsOf encK [x]).toArray 29)) (w7.drew.alloc (.cells (cellsOf encK [x]).toArray 29)).heap.size 29 (cellsOf encK [x]).toArray from Blk.new (w7.drew.alloc (.cells (cellsOf encK [x]).toArray 29)) 29 _)
    have E2 := Lib.hid (show Below w7.heap.size w7 ((w7.drew.alloc (.cells (cellsOf encK [x]).toArray 29)).alloc (.cells (cellsOf encK [x]).toArray 29)) from ((Below.refl w7.heap.size w7).drew.alloc (Nat.le_refl _) _).alloc (by simp) _)
    refine hK.out _ _ C2.out (fun hS => ?_)
    clear hK Kq
    try simp only [Act.put, List.getElem_toArray, List.getElem_cons_zero, List.getElem_cons_succ, List.setIfInBounds_toArray, List.set_cons_succ, List.set_cons_zero]
    refine wpAnyH_ready (rs := [19]) (by kernel_rfl) (by simp) ?_
    refine AllReadyH.cons rfl (fun Kq hK => ?_) AllReadyH.nil
    refine tyKy.step_append rfl zcKy 32 zbKy (by omega) (.tmp 108) (.tmp 117) rfl w7.heap.size _ [x] rfl (own_of_blk (n := 1) (g := w7.drew.heap.size) KA.out (by simp) rfl (by decide)) _ (some ⟨(w7.drew.alloc (.cells (cellsOf encK [x]).toArray 29)).heap.size, 0, none⟩) 1 [x] rfl (rowIn_blk KB.out (by simp) (by decide)) (by simp) (by simp; try omega) ?_
    intro v5 y5 p5 g5
    have E5 := Lib.hid (E2.out.trans (own_grown (own_of_blk (n := 1) (g := w7.drew.heap.size) KA.out (by simp) (show [x].length = 1 from rfl) (by decide)) g5 (by simp; try omega)))
    obtain ⟨A7, c7, rfl, r7⟩ := RowIn.of_own encK_len p5
    have RZ7 := Lib.hid (show RowIn encK 32 y5 y5.heap.size A7 c7 [x, x] from r7)
    refine hK.out _ _ (HC2.out.1.below E5.out HC2.out.2) (fun hS => ?_)
    clear hK Kq p5 g5 r7 C1 C2 KA KB E2
    try simp only [Act.put, List.getElem_toArray, List.getElem_cons_zero, List.getElem_cons_succ, List.setIfInBounds_toArray, List.set_cons_succ, List.set_cons_zero]
    refine wpAnyH_ready (rs := [20]) (by kernel_rfl) (by simp) ?_
    refine AllReadyH.cons rfl (fun Kq hK => ?_) AllReadyH.nil
    go_simp
    refine (HU.out A2 A7 c2 c7 S [x, x] _ ((R7.out.on E5.out).at (by simp)) RZ7.out (by have := HN.out; omega) (by simp)).mono ?_
    rw [undo_no HSX.out HST.out]
    rintro e y6 ⟨A8, c8, rfl, _, bq⟩
    have E6 := Lib.hid (E5.out.trans (bq.mono E5.out.size))
    have BZ := Lib.hid (B7.out.trans (E6.out.mono B7.out.size))
    refine hK.out _ _ (HC2.out.1.below E6.out HC2.out.2) (fun hS => ?_)
    clear hK Kq bq
    refine wpAnyH_take (i := 21) (v := .tuple #[.slice A8 0 c8, .int .i64 3]) rfl (by kernel_rfl) (by kernel_rfl) (by kernel_rfl) (fun _ _ _ h => h) (Or.inl ⟨by rfl, fun W _ => by go_simp; try with_reducible rfl⟩) hS ?_
    simp only [Act.put, List.getElem_toArray, List.getElem_cons_zero, List.getElem_cons_succ, List.setIfInBounds_toArray, List.set_cons_succ, List.set_cons_zero]
    refine wpAnyH_take (i := 22) (v := .slice A8 0 c8) rfl (by kernel_rfl) (by kernel_rfl) (by kernel_rfl) (fun _ _ _ h => h) (Or.inl ⟨by rfl, fun W _ => by go_simp; try with_reducible rfl⟩) hS ?_
    simp only [Act.put, List.getElem_toArray, List.getElem_cons_zero, List.getElem_cons_succ, List.setIfInBounds_toArray, List.set_cons_succ, List.set_cons_zero]
    refine wpAnyH_take (i := 23) (v := .int .i64 3) rfl (by kernel_rfl) (by kernel_rfl) (by kernel_rfl) (fun _ _ _ h => h) (Or.inl ⟨by rfl, fun W _ => by go_simp; try with_reducible rfl⟩) hS ?_
    simp only [Act.put, List.getElem_toArray, List.getElem_cons_zero, List.getElem_cons_succ, List.setIfInBounds_toArray, List.set_cons_succ, List.set_cons_zero]
    refine wpAnyH_take (i := 24) (v := .slice A8 0 c8) rfl (by kernel_rfl) (by kernel_rfl) (by kernel_rfl) (fun _ _ _ h => h) (Or.inl ⟨by rfl, fun W _ => by go_simp; try with_reducible rfl⟩) hS ?_
    simp only [Act.put, List.getElem_toArray, List.getElem_cons_zero, List.getElem_cons_succ, List.setIfInBounds_toArray, List.set_cons_succ, List.set_cons_zero]
    refine wpAnyH_take (i := 25) (v := .int .i64 3) rfl (by kernel_rfl) (by kernel_rfl) (by kernel_rfl) (fun _ _ _ h => h) (Or.inl ⟨by rfl, fun W _ => by go_simp; try with_reducible rfl⟩) hS ?_
    simp only [Act.put, List.getElem_toArray, List.getElem_cons_zero, List.getElem_cons_succ, List.setIfInBounds_toArray, List.set_cons_succ, List.set_cons_zero]
    refine wpAnyH_done (by kernel_rfl) ?_ _
    clear hS
    go_wp2_with fail
    go_ret
    exact ⟨rfl, BZ.out⟩
  · refine tyKy.step_build rfl nzsK 1 _ rfl [x] rfl (by omega) (by omega) (by kernel_rfl) ?_
    have C1 := Lib.hid (show RowC (w7.drew.alloc (.cells (cellsOf encK [x]).toArray 29)) g (o + i * 32) (encK x) from HC2.out.1.below ((Below.refl w7.heap.size w7).drew.alloc (Nat.le_refl _) _) HC2.out.2)
    refine hK.out _ _ C1.out (fun hS => ?_)
    clear hK Kq
    try simp only [Act.put, List.getElem_toArray, List.getElem_cons_zero, List.getElem_cons_succ, List.setIfInBounds_toArray, List.set_cons_succ, List.set_cons_zero]
    refine wpAnyH_ready (rs := [9]) (by kernel_rfl) (by simp) ?_
    refine AllReadyH.cons rfl (fun Kq hK => ?_) AllReadyH.nil
    refine tyKy.step_build rfl nzsK 1 _ rfl [x] rfl (by omega) (by omega) (by kernel_rfl) ?_
    have C2 := Lib.hid (show RowC ((w7.drew.alloc (.cells (cellsOf encK [x]).toArray 29)).alloc (.cells (cellsOf encK [x]).toArray 29)) g (o + i * 32) (encK x) from C1.out.below ((Below.refl _ _).alloc (Nat.le_refl _) _) (by have := HC2.out.2; simp; exact Nat.lt_succ_of_lt this))
    have KA := Lib.hid (show Blk ((w7.drew.alloc (.cells (cellsOf encK [x]).toArray 29)).alloc (.cells (cellsOf encK [x]).toArray 29)) w7.heap.size 29 (cellsOf encK [x]).toArray from (Blk.new w7 29 (cellsOf encK [x]).toArray).alloc _)
    have KB := Lib.hid (show Blk ((w7.drew.alloc (.cells (cellsOf encK [x]).toArray 29)).alloc (.cells (cellsOf encK [x]).toArray 29)) (w7.drew.alloc (.cells (cellsOf encK [x]).toArray 29)).heap.size 29 (cellsOf encK [x]).toArray from Blk.new (w7.drew.alloc (.cells (cellsOf encK [x]).toArray 29)) 29 _)
    have E2 := Lib.hid (show Below w7.heap.size w7 ((w7.drew.alloc (.cells (cellsOf encK [x]).toArray 29)).alloc (.cells (cellsOf encK [x]).toArray 29)) from ((Below.refl w7.heap.size w7).drew.alloc (Nat.le_refl _) _).alloc (by simp) _)
    refine hK.out _ _ C2.out (fun hS => ?_)
    clear hK Kq
    try simp only [Act.put, List.getElem_toArray, List.getElem_cons_zero, List.getElem_cons_succ, List.setIfInBounds_toArray, List.set_cons_succ, List.set_cons_zero]
    refine wpAnyH_ready (rs := [19]) (by kernel_rfl) (by simp) ?_
    refine AllReadyH.cons rfl (fun Kq hK => ?_) AllReadyH.nil
    refine tyKy.step_append rfl zcKy 32 zbKy (by omega) (.tmp 108) (.tmp 117) rfl w7.heap.size _ [x] rfl (own_of_blk (n := 1) (g := (w7.drew.alloc (.cells (cellsOf encK [x]).toArray 29)).heap.size) KB.out (by simp) rfl (by decide)) _ (some ⟨w7.drew.heap.size, 0, none⟩) 1 [x] rfl (rowIn_blk KA.out (by simp) (by decide)) (by simp) (by simp; try omega) ?_
    intro v5 y5 p5 g5
    have E5 := Lib.hid (E2.out.trans (own_grown (own_of_blk (n := 1) (g := (w7.drew.alloc (.cells (cellsOf encK [x]).toArray 29)).heap.size) KB.out (by simp) (show [x].length = 1 from rfl) (by decide)) g5 (by simp; try omega)))
    obtain ⟨A7, c7, rfl, r7⟩ := RowIn.of_own encK_len p5
    have RZ7 := Lib.hid (show RowIn encK 32 y5 y5.heap.size A7 c7 [x, x] from r7)
    refine hK.out _ _ (HC2.out.1.below E5.out HC2.out.2) (fun hS => ?_)
    clear hK Kq p5 g5 r7 C1 C2 KA KB E2
    try simp only [Act.put, List.getElem_toArray, List.getElem_cons_zero, List.getElem_cons_succ, List.setIfInBounds_toArray, List.set_cons_succ, List.set_cons_zero]
    refine wpAnyH_ready (rs := [20]) (by kernel_rfl) (by simp) ?_
    refine AllReadyH.cons rfl (fun Kq hK => ?_) AllReadyH.nil
    go_simp
    refine (HU.out A2 A7 c2 c7 S [x, x] _ ((R7.out.on E5.out).at (by simp)) RZ7.out (by have := HN.out; omega) (by simp)).mono ?_
    rw [undo_no HSX.out HST.out]
    rintro e y6 ⟨A8, c8, rfl, _, bq⟩
    have E6 := Lib.hid (E5.out.trans (bq.mono E5.out.size))
    have BZ := Lib.hid (B7.out.trans (E6.out.mono B7.out.size))
    refine hK.out _ _ (HC2.out.1.below E6.out HC2.out.2) (fun hS => ?_)
    clear hK Kq bq
    refine wpAnyH_take (i := 21) (v := .tuple #[.slice A8 0 c8, .int .i64 3]) rfl (by kernel_rfl) (by kernel_rfl) (by kernel_rfl) (fun _ _ _ h => h) (Or.inl ⟨by rfl, fun W _ => by go_simp; try with_reducible rfl⟩) hS ?_
    simp only [Act.put, List.getElem_toArray, List.getElem_cons_zero, List.getElem_cons_succ, List.setIfInBounds_toArray, List.set_cons_succ, List.set_cons_zero]
    refine wpAnyH_take (i := 22) (v := .slice A8 0 c8) rfl (by kernel_rfl) (by kernel_rfl) (by kernel_rfl) (fun _ _ _ h => h) (Or.inl ⟨by rfl, fun W _ => by go_simp; try with_reducible rfl⟩) hS ?_
    simp only [Act.put, List.getElem_toArray, List.getElem_cons_zero, List.getElem_cons_succ, List.setIfInBounds_toArray, List.set_cons_succ, List.set_cons_zero]
    refine wpAnyH_take (i := 23) (v := .int .i64 3) rfl (by kernel_rfl) (by kernel_rfl) (by kernel_rfl) (fun _ _ _ h => h) (Or.inl ⟨by rfl, fun W _ => by go_simp; try with_reducible rfl⟩) hS ?_
    simp only [Act.put, List.getElem_toArray, List.getElem_cons_zero, List.getElem_cons_succ, List.setIfInBounds_toArray, List.set_cons_succ, List.set_cons_zero]
    refine wpAnyH_take (i := 24) (v := .slice A8 0 c8) rfl (by kernel_rfl) (by kernel_rfl) (by kernel_rfl) (fun _ _ _ h => h) (Or.inl ⟨by rfl, fun W _ => by go_simp; try with_reducible rfl⟩) hS ?_
    simp only [Act.put, List.getElem_toArray, List.getElem_cons_zero, List.getElem_cons_succ, List.setIfInBounds_toArray, List.set_cons_succ, List.set_cons_zero]
    refine wpAnyH_take (i := 25) (v := .int .i64 3) rfl (by kernel_rfl) (by kernel_rfl) (by kernel_rfl) (fun _ _ _ h => h) (Or.inl ⟨by rfl, fun W _ => by go_simp; try with_reducible rfl⟩) hS ?_
    simp only [Act.put, List.getElem_toArray, List.getElem_cons_zero, List.getElem_cons_succ, List.setIfInBounds_toArray, List.set_cons_succ, List.set_cons_zero]
    refine wpAnyH_done (by kernel_rfl) ?_ _
    clear hS
    go_wp2_with fail
    go_ret
    exact ⟨rfl, BZ.out⟩
theorem ntwice_walk (HSP : SpendOk) (HUN : UnspendOk) (HFR : FreeOk) (A A' : Option Addr) (c c' : Nat) (l m : List K32) (n : Int) (w : World) (hl : RowIn encK 32 w w.heap.size A c l) (hm : RowIn encK 32 w w.heap.size A' c' m) (hn : (Lit.int .u8 n).wf = true) :
    Calls Try.prog 5 #[.slice A l.length c, .slice A' m.length c', .int .u8 n] w fun e w' => e = .returned (.bool true) ∧ Below w.heap.size w w' := by
  by_cases h1 : 100 < l.length
  · exact ntwice_h1 HSP HUN HFR A A' c c' l m n w hl hm hn h1
  by_cases h2 : 100 < m.length
  · exact ntwice_h2 HSP HUN HFR A A' c c' l m n w hl hm hn (by omega) h2
  have hSl : (addL [] l).length ≤ 100 := by have := addL_le l []; simp at this; omega
  have hset : IsSet (addL [] l) := addL_set List.Pairwise.nil
  have hn1 : 0 ≤ n := by
    simp [Lit.wf, IntKind.min, IntKind.max, IntKind.signed, IntKind.bits] at hn
    omega
  have hmod : 0 < l.length → ∃ i, i < l.length ∧ n.tmod (l.length : Int) = (i : Int) := fun h0 => by
    have e : n.tmod (l.length : Int) = n % (l.length : Int) := Int.tmod_eq_emod_of_nonneg hn1
    have b1 := Int.emod_nonneg n (show (l.length : Int) ≠ 0 by omega)
    have b2 := Int.emod_lt_of_pos n (show (0 : Int) < (l.length : Int) by omega)
    exact ⟨(n % (l.length : Int)).toNat, by omega, by rw [e]; omega⟩
  rcases spend_two l m with ⟨q, x1, x2⟩ | ⟨q, x2, f, x1⟩ | ⟨q, x2, f, x1⟩
  · have h0 : 0 < l.length := by
      rcases Nat.eq_zero_or_pos l.length with h | h
      · have : l = [] := List.length_eq_zero_iff.1 h
        subst this
        simp at q
      · exact h
    rcases spendN_or [] m with ⟨_, x3⟩ | ⟨_, x3⟩
    · exact ntwice_i0 HSP HUN HFR A A' c c' l m n w hl hm hn (by omega) (by omega) _ [] _ _ rfl (by simp) x1 x2 x3 h0
    · exact ntwice_i1 HSP HUN HFR A A' c c' l m n w hl hm hn (by omega) (by omega) _ [] _ _ rfl (by simp) x1 x2 x3 h0
  · have x3 : spendN (addL [] l) m = ([], 161) := by unfold spendN; rw [f]; rfl
    rcases Nat.eq_zero_or_pos l.length with h | h
    · exact ntwice_ii0 HSP HUN HFR A A' c c' l m n w hl hm hn (by omega) (by omega) _ _ _ _ rfl hSl x1 x2 x3 h
    · obtain ⟨i, hi, hmo⟩ := hmod h
      exact ntwice_ii HSP HUN HFR A A' c c' l m n w hl hm hn (by omega) (by omega) _ _ _ _ rfl hSl x1 x2 x3 hset (fun y hy => addL_mem.2 (.inr hy)) i hi hmo
  · have x3 : spendN (addL [] l) m = (addL (addL [] l) m, 0) := by unfold spendN; rw [if_pos f]
    have hXl : (addL (addL [] l) m).length ≤ 200 := by have := addL_le m (addL [] l); omega
    rcases Nat.eq_zero_or_pos l.length with h | h
    · exact ntwice_iii0 HSP HUN HFR A A' c c' l m n w hl hm hn (by omega) (by omega) _ _ _ rfl hSl x1 x2 x3 h hXl
    · obtain ⟨i, hi, hmo⟩ := hmod h
      exact ntwice_iii HSP HUN HFR A A' c c' l m n w hl hm hn (by omega) (by omega) _ _ _ rfl hSl x1 x2 x3 hset (fun y hy => addL_mem.2 (.inr hy)) i hi hmo hXl
end Go.Proofs.Ytklfbconbkbmpaa
