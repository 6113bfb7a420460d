/- The document's Check. Written by genChC.py. -/
import Derived.Test.YtimhophelecmjaaChkB
namespace Go.Proofs.Ytimhophelecmjaa
open Go.RowKit
theorem checkF_enc {T : TxV} {b : Bool} (h : (encF T).2 ≠ 0) : checkF T b = (encF T).2 := by unfold checkF; rw [if_pos h]
theorem checkF_none {T : TxV} {b : Bool} (h : (encF T).2 = 0) (h2 : noneF T = true) : checkF T b = 110 := by unfold checkF; rw [if_neg (by simpa using h), h2]; rfl
theorem checkF_coin {T : TxV} {b : Bool} (h : (encF T).2 = 0) (h2 : noneF T = false) (h3 : coinBad T b = true) : checkF T b = 112 := by unfold checkF; rw [if_neg (by simpa using h), h2, h3]; rfl
theorem checkF_twice {T : TxV} {b : Bool} (h : (encF T).2 = 0) (h2 : noneF T = false) (h3 : coinBad T b = false) (h4 : twiceF T = true) : checkF T b = 111 := by unfold checkF; rw [if_neg (by simpa using h), h2, h3, h4]; rfl
theorem checkF_money {T : TxV} {b : Bool} (h : (encF T).2 = 0) (h2 : noneF T = false) (h3 : coinBad T b = false) (h4 : twiceF T = false) (h5 : moneyF T = true) : checkF T b = 20 := by unfold checkF; rw [if_neg (by simpa using h), h2, h3, h4, h5]; rfl
theorem checkF_ok {T : TxV} {b : Bool} (h : (encF T).2 = 0) (h2 : noneF T = false) (h3 : coinBad T b = false) (h4 : twiceF T = false) (h5 : moneyF T = false) : checkF T b = 0 := by unfold checkF; rw [if_neg (by simpa using h), h2, h3, h4, h5]; rfl
set_option maxRecDepth 20000 in
set_option maxHeartbeats 4000000 in
theorem rCheck_k (a : TxA) (b : Bool) (w : World) (ha : a.In w w.heap.size) (hn : Some120 a.T) :
    Calls Try.prog 7 #[.agg a.cells.toArray, .bool b] w fun e w' => e = .returned (.int .i64 (checkF a.T b)) ∧ Below w.heap.size w w' := by
  have H0 := Lib.hid (show Holds w [(w.heap.size, 29, a.cells.toArray)] (w.alloc (.cells a.cells.toArray 29)) from (Holds.nil w).box 29 a.cells.toArray)
  have IN := Lib.hid ha
  have HN := Lib.hid hn
  have HVL := Lib.hid (show (valsF a.T).length = a.T.outs.length by unfold valsF; rw [List.length_map])
  have HEN := Lib.hid (fun W (h : Holds w [(w.heap.size, 29, a.cells.toArray)] W) => refEncA_any a W (IN.out.on h.below (Nat.le_refl _)))
  obtain ⟨er, her⟩ : ∃ er, (encF a.T).2 = er := ⟨_, rfl⟩
  obtain ⟨sb, hsb⟩ : ∃ sb : ByteArray, (⟨(encF a.T).1.toArray⟩ : ByteArray) = sb := ⟨_, rfl⟩
  unfold encV at HEN
  rw [her, hsb] at HEN
  have HE0 := Lib.hid her
  clear ha hn her hsb
  go_enter Try.func7, Try.ntmps7
  go_wp2_with ((with_reducible refine at_load 2 ?_); refine tyTx.wpList_load rfl (.tmp 2) rfl w.heap.size 0 rfl a (RowC.of_blk (H0.out.at (x := (w.heap.size, 29, a.cells.toArray)) (by simp))) ?_)
  refine (HEN.out _ H0.out).mono ?_
  rintro e w1 ⟨rfl, b1⟩
  have HH := Lib.hid (H0.out.call b1)
  clear b1 H0 HEN
  by_cases h0 : er = 0
  · subst h0
    have HE := HE0
    have i1 := HN.out.i
    have i2 := HN.out.o
    have i3 := HN.out.n
    have i4 := HN.out.t
    have hw1 : IntKind.i64.wrap ((a.T.ins.length : Int) + (a.T.nulls.length : Int)) = (a.T.ins.length : Int) + (a.T.nulls.length : Int) := by rw [IntKind.wrap_i64]; omega
    have hw2 : IntKind.i64.wrap ((a.T.outs.length : Int) + (a.T.notes.length : Int)) = (a.T.outs.length : Int) + (a.T.notes.length : Int) := by rw [IntKind.wrap_i64]; omega
    obtain ⟨x1, hx1⟩ : ∃ x, ((a.T.ins.length : Int) + (a.T.nulls.length : Int) == 0) = x := ⟨_, rfl⟩
    obtain ⟨x2, hx2⟩ : ∃ x, ((a.T.outs.length : Int) + (a.T.notes.length : Int) == 0) = x := ⟨_, rfl⟩
    have HNX := Lib.hid (show noneF a.T = (x1 || x2) by
      unfold noneF
      have h1 : decide (a.T.ins.length + a.T.nulls.length = 0) = x1 := by rw [← hx1, Bool.eq_iff_iff, decide_eq_true_iff, beq_iff_eq]; omega
      have h2 : decide (a.T.outs.length + a.T.notes.length = 0) = x2 := by rw [← hx2, Bool.eq_iff_iff, decide_eq_true_iff, beq_iff_eq]; omega
      rw [h1, h2])
    clear i1 i2 i3 i4
    have k1 : w1.cell? ⟨w.heap.size, 1, none⟩ = some (.slice a.Ai a.T.ins.length a.ci) := TxA.c1 (RowC.of_blk (HH.out.at (x := (w.heap.size, 29, a.cells.toArray)) (by simp)))
    have k2 : w1.cell? ⟨w.heap.size, 2, none⟩ = some (.slice a.Ao a.T.outs.length a.co) := TxA.c2 (RowC.of_blk (HH.out.at (x := (w.heap.size, 29, a.cells.toArray)) (by simp)))
    have k4 : w1.cell? ⟨w.heap.size, 35, none⟩ = some (.slice a.An a.T.nulls.length a.cn) := TxA.c4 (RowC.of_blk (HH.out.at (x := (w.heap.size, 29, a.cells.toArray)) (by simp)))
    have k5 : w1.cell? ⟨w.heap.size, 36, none⟩ = some (.slice a.At a.T.notes.length a.ct) := TxA.c5 (RowC.of_blk (HH.out.at (x := (w.heap.size, 29, a.cells.toArray)) (by simp)))
    have k6 : w1.cell? ⟨w.heap.size, 37, none⟩ = some (.int .i64 a.T.bal.1) := TxA.c6 (RowC.of_blk (HH.out.at (x := (w.heap.size, 29, a.cells.toArray)) (by simp)))
    cases x1 with
    | true =>
      have HNO := Lib.hid (show noneF a.T = true by rw [HNX.out]; rfl)
      go_wp2_with fail
      go_ret
      exact ⟨by rw [checkF_none HE.out HNO.out]; rfl, HH.out.below⟩
    | false =>
      cases x2 with
      | true =>
        have HNO := Lib.hid (show noneF a.T = true by rw [HNX.out]; rfl)
        go_wp2_with fail
        go_ret
        exact ⟨by rw [checkF_none HE.out HNO.out]; rfl, HH.out.below⟩
      | false =>
        have HNO := Lib.hid (show noneF a.T = false by rw [HNX.out]; rfl)
        clear HNX
        obtain ⟨cf, hcf⟩ : ∃ cf, coinF a.T = cf := ⟨_, rfl⟩
        have HCF := Lib.hid hcf
        have HCB := Lib.hid (refCoin_any a w1 (IN.out.on HH.out.below (Nat.le_refl _)))
        rw [hcf] at HCB
        clear hcf
        go_wp2_with ((with_reducible refine at_load 2 ?_); refine tyTx.wpList_load rfl (.tmp 2) rfl w.heap.size 0 rfl a (RowC.of_blk (HH.out.at (x := (w.heap.size, 29, a.cells.toArray)) (by simp))) ?_)
        clear k1 k2 k4 k5 k6 hw1 hw2 hx1 hx2
        with_reducible refine (HCB.out).mono ?_
        rintro e w2 ⟨rfl, bq⟩
        have HQ := Lib.hid (HH.out.call bq)
        clear bq HH
        have HH := HQ
        clear HQ
        clear HCB
        cases b with
        | true =>
          cases cf with
          | false =>
            have HCO := Lib.hid (show coinBad a.T true = true by unfold coinBad; rw [HCF.out]; rfl)
            go_wp2_with fail
            go_ret
            exact ⟨by rw [checkF_coin HE.out HNO.out HCO.out]; rfl, HH.out.below⟩
          | true =>
            obtain ⟨y, hy⟩ : ∃ y, decide ((0 : Int) < (a.T.nulls.length : Int)) = y := ⟨_, rfl⟩
            have hy2 : decide (0 < a.T.nulls.length) = y := by rw [← hy, Bool.eq_iff_iff, decide_eq_true_iff, decide_eq_true_iff]; omega
            have HCO := Lib.hid (show coinBad a.T true = y by
              unfold coinBad
              rw [HCF.out]
              have : decide (0 < a.T.nulls.length) = y := by rw [← hy, Bool.eq_iff_iff, decide_eq_true_iff, decide_eq_true_iff]; omega
              rw [this]
              simp)
            have k1 : w2.cell? ⟨w.heap.size, 1, none⟩ = some (.slice a.Ai a.T.ins.length a.ci) := TxA.c1 (RowC.of_blk (HH.out.at (x := (w.heap.size, 29, a.cells.toArray)) (by simp)))
            have k2 : w2.cell? ⟨w.heap.size, 2, none⟩ = some (.slice a.Ao a.T.outs.length a.co) := TxA.c2 (RowC.of_blk (HH.out.at (x := (w.heap.size, 29, a.cells.toArray)) (by simp)))
            have k4 : w2.cell? ⟨w.heap.size, 35, none⟩ = some (.slice a.An a.T.nulls.length a.cn) := TxA.c4 (RowC.of_blk (HH.out.at (x := (w.heap.size, 29, a.cells.toArray)) (by simp)))
            have k5 : w2.cell? ⟨w.heap.size, 36, none⟩ = some (.slice a.At a.T.notes.length a.ct) := TxA.c5 (RowC.of_blk (HH.out.at (x := (w.heap.size, 29, a.cells.toArray)) (by simp)))
            have k6 : w2.cell? ⟨w.heap.size, 37, none⟩ = some (.int .i64 a.T.bal.1) := TxA.c6 (RowC.of_blk (HH.out.at (x := (w.heap.size, 29, a.cells.toArray)) (by simp)))
            cases y with
            | true =>
              go_wp2_with fail
              go_ret
              exact ⟨by rw [checkF_coin HE.out HNO.out HCO.out]; rfl, HH.out.below⟩
            | false =>
              clear k1 k2 k4 k5 k6
              have k1 : w2.cell? ⟨w.heap.size, 1, none⟩ = some (.slice a.Ai a.T.ins.length a.ci) := TxA.c1 (RowC.of_blk (HH.out.at (x := (w.heap.size, 29, a.cells.toArray)) (by simp)))
              have k2 : w2.cell? ⟨w.heap.size, 2, none⟩ = some (.slice a.Ao a.T.outs.length a.co) := TxA.c2 (RowC.of_blk (HH.out.at (x := (w.heap.size, 29, a.cells.toArray)) (by simp)))
              have k4 : w2.cell? ⟨w.heap.size, 35, none⟩ = some (.slice a.An a.T.nulls.length a.cn) := TxA.c4 (RowC.of_blk (HH.out.at (x := (w.heap.size, 29, a.cells.toArray)) (by simp)))
              have k5 : w2.cell? ⟨w.heap.size, 36, none⟩ = some (.slice a.At a.T.notes.length a.ct) := TxA.c5 (RowC.of_blk (HH.out.at (x := (w.heap.size, 29, a.cells.toArray)) (by simp)))
              have k6 : w2.cell? ⟨w.heap.size, 37, none⟩ = some (.int .i64 a.T.bal.1) := TxA.c6 (RowC.of_blk (HH.out.at (x := (w.heap.size, 29, a.cells.toArray)) (by simp)))
              have HPO := Lib.hid (rPoints_k a.Ai a.ci a.T.ins w2 (IN.out.on HH.out.below (Nat.le_refl _)).ins (by have := HN.out.i; omega))
              obtain ⟨p, hp⟩ : ∃ p, decide a.T.ins.Nodup = p := ⟨_, rfl⟩
              rw [hp] at HPO
              have HP := Lib.hid hp
              clear hp
              go_wp2_with fail
              clear k1 k2 k4 k5 k6
              with_reducible refine (HPO.out).mono ?_
              rintro e w6 ⟨rfl, bq⟩
              have HQ := Lib.hid (HH.out.call bq)
              clear bq HH
              have HH := HQ
              clear HQ
              clear HPO
              cases p with
              | false =>
                have HT := Lib.hid (show twiceF a.T = true by unfold twiceF; rw [HP.out]; rfl)
                go_wp2_with fail
                go_ret
                exact ⟨by rw [checkF_twice HE.out HNO.out HCO.out HT.out]; rfl, HH.out.below⟩
              | true =>
                have k1 : w6.cell? ⟨w.heap.size, 1, none⟩ = some (.slice a.Ai a.T.ins.length a.ci) := TxA.c1 (RowC.of_blk (HH.out.at (x := (w.heap.size, 29, a.cells.toArray)) (by simp)))
                have k2 : w6.cell? ⟨w.heap.size, 2, none⟩ = some (.slice a.Ao a.T.outs.length a.co) := TxA.c2 (RowC.of_blk (HH.out.at (x := (w.heap.size, 29, a.cells.toArray)) (by simp)))
                have k4 : w6.cell? ⟨w.heap.size, 35, none⟩ = some (.slice a.An a.T.nulls.length a.cn) := TxA.c4 (RowC.of_blk (HH.out.at (x := (w.heap.size, 29, a.cells.toArray)) (by simp)))
                have k5 : w6.cell? ⟨w.heap.size, 36, none⟩ = some (.slice a.At a.T.notes.length a.ct) := TxA.c5 (RowC.of_blk (HH.out.at (x := (w.heap.size, 29, a.cells.toArray)) (by simp)))
                have k6 : w6.cell? ⟨w.heap.size, 37, none⟩ = some (.int .i64 a.T.bal.1) := TxA.c6 (RowC.of_blk (HH.out.at (x := (w.heap.size, 29, a.cells.toArray)) (by simp)))
                have HDI := Lib.hid (refDistinct_any a.An a.cn a.T.nulls w6.heap.size (by have := HN.out.n; omega) w6 (Nat.le_refl _) (IN.out.on HH.out.below (Nat.le_refl _)).nulls)
                obtain ⟨d, hd⟩ : ∃ d, decide a.T.nulls.Nodup = d := ⟨_, rfl⟩
                rw [hd] at HDI
                have HD := Lib.hid hd
                clear hd
                go_wp2_with fail
                clear k1 k2 k4 k5 k6
                with_reducible refine (HDI.out).mono ?_
                rintro e w7 ⟨rfl, bq⟩
                have HQ := Lib.hid (HH.out.call bq)
                clear bq HH
                have HH := HQ
                clear HQ
                clear HDI
                have HT := Lib.hid (show twiceF a.T = !d by unfold twiceF; rw [HP.out, HD.out]; simp)
                cases d with
                | false =>
                  go_wp2_with fail
                  go_ret
                  exact ⟨by rw [checkF_twice HE.out HNO.out HCO.out HT.out]; rfl, HH.out.below⟩
                | true =>
                  have HVA := Lib.hid (rValues_k a w7 (IN.out.on HH.out.below (Nat.le_refl _)) (by have := HN.out.o; omega))
                  go_wp2_with ((with_reducible refine at_load 2 ?_); refine tyTx.wpList_load rfl (.tmp 2) rfl w.heap.size 0 rfl a (RowC.of_blk (HH.out.at (x := (w.heap.size, 29, a.cells.toArray)) (by simp))) ?_)
                  refine HVA.out.mono ?_
                  rintro e w8 ⟨A8, c8, rfl, r8, bq⟩
                  have HQ := Lib.hid (HH.out.call bq)
                  clear bq HH HVA
                  have HH := HQ
                  clear HQ
                  have HSU := Lib.hid (rsum_any (valsF a.T) A8 (valsV a.T).length c8 w8.heap.size w8 (by rw [← vals_cells]; exact r8.reads (enc1_len _)) (by have := HN.out.o; have h := valsV_len a.T; unfold maxLen; omega))
                  obtain ⟨so, hso⟩ : ∃ so, sumO 0 (valsF a.T) = so := ⟨_, rfl⟩
                  rw [hso] at HSU
                  have HMY := Lib.hid (show moneyF a.T = (so.isNone || balF a.T) by unfold moneyF; rw [hso])
                  clear hso r8
                  go_wp2_with fail
                  refine HSU.out.mono ?_
                  rintro e w9 ⟨rfl, rfl⟩
                  clear HSU
                  cases so with
                  | none =>
                    have HM := Lib.hid (show moneyF a.T = true by rw [HMY.out]; rfl)
                    have hvn : valO none = 0 := rfl
                    have hen : errO none = 20 := rfl
                    unfold resO
                    rw [hvn, hen]
                    clear hvn hen
                    go_wp2_with fail
                    go_ret
                    exact ⟨by rw [checkF_money HE.out HNO.out HCO.out HT.out HM.out]; rfl, HH.out.below⟩
                  | some s0 =>
                    have hvn : valO (some s0) = s0 := rfl
                    have hen : errO (some s0) = 0 := rfl
                    unfold resO
                    rw [hvn, hen]
                    clear hvn hen
                    have k1 : w8.cell? ⟨w.heap.size, 1, none⟩ = some (.slice a.Ai a.T.ins.length a.ci) := TxA.c1 (RowC.of_blk (HH.out.at (x := (w.heap.size, 29, a.cells.toArray)) (by simp)))
                    have k2 : w8.cell? ⟨w.heap.size, 2, none⟩ = some (.slice a.Ao a.T.outs.length a.co) := TxA.c2 (RowC.of_blk (HH.out.at (x := (w.heap.size, 29, a.cells.toArray)) (by simp)))
                    have k4 : w8.cell? ⟨w.heap.size, 35, none⟩ = some (.slice a.An a.T.nulls.length a.cn) := TxA.c4 (RowC.of_blk (HH.out.at (x := (w.heap.size, 29, a.cells.toArray)) (by simp)))
                    have k5 : w8.cell? ⟨w.heap.size, 36, none⟩ = some (.slice a.At a.T.notes.length a.ct) := TxA.c5 (RowC.of_blk (HH.out.at (x := (w.heap.size, 29, a.cells.toArray)) (by simp)))
                    have k6 : w8.cell? ⟨w.heap.size, 37, none⟩ = some (.int .i64 a.T.bal.1) := TxA.c6 (RowC.of_blk (HH.out.at (x := (w.heap.size, 29, a.cells.toArray)) (by simp)))
                    obtain ⟨q1, hq1⟩ : ∃ q, decide (a.T.bal.1 < -2100000000000000) = q := ⟨_, rfl⟩
                    obtain ⟨q2, hq2⟩ : ∃ q, decide (2100000000000000 < a.T.bal.1) = q := ⟨_, rfl⟩
                    obtain ⟨q3, hq3⟩ : ∃ q, decide (0 < a.T.bal.1) = q := ⟨_, rfl⟩
                    obtain ⟨q4, hq4⟩ : ∃ q, decide (a.T.bal.1 < 0) = q := ⟨_, rfl⟩
                    obtain ⟨x3, hx3⟩ : ∃ q, ((a.T.nulls.length : Int) == 0) = q := ⟨_, rfl⟩
                    obtain ⟨x4, hx4⟩ : ∃ q, ((a.T.notes.length : Int) == 0) = q := ⟨_, rfl⟩
                    have HBF := Lib.hid (show moneyF a.T = (q1 || q2 || (q3 && x3) || (q4 && x4)) by
                      rw [HMY.out]
                      unfold balF
                      rw [hq1, hq2, hq3, hq4]
                      have h3 : decide (a.T.nulls.length = 0) = x3 := by rw [← hx3, Bool.eq_iff_iff, decide_eq_true_iff, beq_iff_eq]; omega
                      have h4 : decide (a.T.notes.length = 0) = x4 := by rw [← hx4, Bool.eq_iff_iff, decide_eq_true_iff, beq_iff_eq]; omega
                      rw [h3, h4]
                      simp)
                    cases q1 with
                    | true =>
                      have HM := Lib.hid (show moneyF a.T = true by rw [HBF.out]; simp)
                      go_wp2_with fail
                      go_ret
                      exact ⟨by rw [checkF_money HE.out HNO.out HCO.out HT.out HM.out]; rfl, HH.out.below⟩
                    | false =>
                      cases q2 with
                      | true =>
                        have HM := Lib.hid (show moneyF a.T = true by rw [HBF.out]; simp)
                        go_wp2_with fail
                        go_ret
                        exact ⟨by rw [checkF_money HE.out HNO.out HCO.out HT.out HM.out]; rfl, HH.out.below⟩
                      | false =>
                        cases q3 with
                        | true =>
                          cases x3 with
                          | true =>
                            have HM := Lib.hid (show moneyF a.T = true by rw [HBF.out]; simp)
                            go_wp2_with fail
                            go_ret
                            exact ⟨by rw [checkF_money HE.out HNO.out HCO.out HT.out HM.out]; rfl, HH.out.below⟩
                          | false =>
                            cases q4 with
                            | true =>
                              cases x4 with
                              | true =>
                                have HM := Lib.hid (show moneyF a.T = true by rw [HBF.out]; simp)
                                go_wp2_with fail
                                go_ret
                                exact ⟨by rw [checkF_money HE.out HNO.out HCO.out HT.out HM.out]; rfl, HH.out.below⟩
                              | false =>
                                have HM := Lib.hid (show moneyF a.T = false by rw [HBF.out]; simp)
                                go_wp2_with fail
                                go_ret
                                exact ⟨by rw [checkF_ok HE.out HNO.out HCO.out HT.out HM.out]; rfl, HH.out.below⟩
                            | false =>
                              have HM := Lib.hid (show moneyF a.T = false by rw [HBF.out]; simp)
                              go_wp2_with fail
                              go_ret
                              exact ⟨by rw [checkF_ok HE.out HNO.out HCO.out HT.out HM.out]; rfl, HH.out.below⟩
                        | false =>
                          cases q4 with
                          | true =>
                            cases x4 with
                            | true =>
                              have HM := Lib.hid (show moneyF a.T = true by rw [HBF.out]; simp)
                              go_wp2_with fail
                              go_ret
                              exact ⟨by rw [checkF_money HE.out HNO.out HCO.out HT.out HM.out]; rfl, HH.out.below⟩
                            | false =>
                              have HM := Lib.hid (show moneyF a.T = false by rw [HBF.out]; simp)
                              go_wp2_with fail
                              go_ret
                              exact ⟨by rw [checkF_ok HE.out HNO.out HCO.out HT.out HM.out]; rfl, HH.out.below⟩
                          | false =>
                            have HM := Lib.hid (show moneyF a.T = false by rw [HBF.out]; simp)
                            go_wp2_with fail
                            go_ret
                            exact ⟨by rw [checkF_ok HE.out HNO.out HCO.out HT.out HM.out]; rfl, HH.out.below⟩
        | false =>
          cases cf with
          | true =>
            have HCO := Lib.hid (show coinBad a.T false = true by unfold coinBad; rw [HCF.out]; rfl)
            go_wp2_with fail
            go_ret
            exact ⟨by rw [checkF_coin HE.out HNO.out HCO.out]; rfl, HH.out.below⟩
          | false =>
            obtain ⟨z, hz⟩ : ∃ z, zeroIn a.T = z := ⟨_, rfl⟩
            have HZE := Lib.hid (rZero_k a w2 (IN.out.on HH.out.below (Nat.le_refl _)) (by have := HN.out.i; omega))
            rw [hz] at HZE
            have HCO := Lib.hid (show coinBad a.T false = z by unfold coinBad; rw [HCF.out, hz]; simp)
            clear hz
            go_wp2_with ((with_reducible refine at_loadg 2 ?_); refine tyTx.wpList_load (by rfl) (.tmp 2) rfl w.heap.size 0 rfl a (RowC.of_blk (HH.out.at (x := (w.heap.size, 29, a.cells.toArray)) (by simp))) ?_)
            with_reducible refine (HZE.out).mono ?_
            rintro e w3 ⟨rfl, bq⟩
            have HQ := Lib.hid (HH.out.call bq)
            clear bq HH
            have HH := HQ
            clear HQ
            clear HZE
            cases z with
            | true =>
              go_wp2_with fail
              go_ret
              exact ⟨by rw [checkF_coin HE.out HNO.out HCO.out]; rfl, HH.out.below⟩
            | false =>
              have k1 : w3.cell? ⟨w.heap.size, 1, none⟩ = some (.slice a.Ai a.T.ins.length a.ci) := TxA.c1 (RowC.of_blk (HH.out.at (x := (w.heap.size, 29, a.cells.toArray)) (by simp)))
              have k2 : w3.cell? ⟨w.heap.size, 2, none⟩ = some (.slice a.Ao a.T.outs.length a.co) := TxA.c2 (RowC.of_blk (HH.out.at (x := (w.heap.size, 29, a.cells.toArray)) (by simp)))
              have k4 : w3.cell? ⟨w.heap.size, 35, none⟩ = some (.slice a.An a.T.nulls.length a.cn) := TxA.c4 (RowC.of_blk (HH.out.at (x := (w.heap.size, 29, a.cells.toArray)) (by simp)))
              have k5 : w3.cell? ⟨w.heap.size, 36, none⟩ = some (.slice a.At a.T.notes.length a.ct) := TxA.c5 (RowC.of_blk (HH.out.at (x := (w.heap.size, 29, a.cells.toArray)) (by simp)))
              have k6 : w3.cell? ⟨w.heap.size, 37, none⟩ = some (.int .i64 a.T.bal.1) := TxA.c6 (RowC.of_blk (HH.out.at (x := (w.heap.size, 29, a.cells.toArray)) (by simp)))
              have HPO := Lib.hid (rPoints_k a.Ai a.ci a.T.ins w3 (IN.out.on HH.out.below (Nat.le_refl _)).ins (by have := HN.out.i; omega))
              obtain ⟨p, hp⟩ : ∃ p, decide a.T.ins.Nodup = p := ⟨_, rfl⟩
              rw [hp] at HPO
              have HP := Lib.hid hp
              clear hp
              go_wp2_with fail
              clear k1 k2 k4 k5 k6
              with_reducible refine (HPO.out).mono ?_
              rintro e w6 ⟨rfl, bq⟩
              have HQ := Lib.hid (HH.out.call bq)
              clear bq HH
              have HH := HQ
              clear HQ
              clear HPO
              cases p with
              | false =>
                have HT := Lib.hid (show twiceF a.T = true by unfold twiceF; rw [HP.out]; rfl)
                go_wp2_with fail
                go_ret
                exact ⟨by rw [checkF_twice HE.out HNO.out HCO.out HT.out]; rfl, HH.out.below⟩
              | true =>
                have k1 : w6.cell? ⟨w.heap.size, 1, none⟩ = some (.slice a.Ai a.T.ins.length a.ci) := TxA.c1 (RowC.of_blk (HH.out.at (x := (w.heap.size, 29, a.cells.toArray)) (by simp)))
                have k2 : w6.cell? ⟨w.heap.size, 2, none⟩ = some (.slice a.Ao a.T.outs.length a.co) := TxA.c2 (RowC.of_blk (HH.out.at (x := (w.heap.size, 29, a.cells.toArray)) (by simp)))
                have k4 : w6.cell? ⟨w.heap.size, 35, none⟩ = some (.slice a.An a.T.nulls.length a.cn) := TxA.c4 (RowC.of_blk (HH.out.at (x := (w.heap.size, 29, a.cells.toArray)) (by simp)))
                have k5 : w6.cell? ⟨w.heap.size, 36, none⟩ = some (.slice a.At a.T.notes.length a.ct) := TxA.c5 (RowC.of_blk (HH.out.at (x := (w.heap.size, 29, a.cells.toArray)) (by simp)))
                have k6 : w6.cell? ⟨w.heap.size, 37, none⟩ = some (.int .i64 a.T.bal.1) := TxA.c6 (RowC.of_blk (HH.out.at (x := (w.heap.size, 29, a.cells.toArray)) (by simp)))
                have HDI := Lib.hid (refDistinct_any a.An a.cn a.T.nulls w6.heap.size (by have := HN.out.n; omega) w6 (Nat.le_refl _) (IN.out.on HH.out.below (Nat.le_refl _)).nulls)
                obtain ⟨d, hd⟩ : ∃ d, decide a.T.nulls.Nodup = d := ⟨_, rfl⟩
                rw [hd] at HDI
                have HD := Lib.hid hd
                clear hd
                go_wp2_with fail
                clear k1 k2 k4 k5 k6
                with_reducible refine (HDI.out).mono ?_
                rintro e w7 ⟨rfl, bq⟩
                have HQ := Lib.hid (HH.out.call bq)
                clear bq HH
                have HH := HQ
                clear HQ
                clear HDI
                have HT := Lib.hid (show twiceF a.T = !d by unfold twiceF; rw [HP.out, HD.out]; simp)
                cases d with
                | false =>
                  go_wp2_with fail
                  go_ret
                  exact ⟨by rw [checkF_twice HE.out HNO.out HCO.out HT.out]; rfl, HH.out.below⟩
                | true =>
                  have HVA := Lib.hid (rValues_k a w7 (IN.out.on HH.out.below (Nat.le_refl _)) (by have := HN.out.o; omega))
                  go_wp2_with ((with_reducible refine at_load 2 ?_); refine tyTx.wpList_load rfl (.tmp 2) rfl w.heap.size 0 rfl a (RowC.of_blk (HH.out.at (x := (w.heap.size, 29, a.cells.toArray)) (by simp))) ?_)
                  refine HVA.out.mono ?_
                  rintro e w8 ⟨A8, c8, rfl, r8, bq⟩
                  have HQ := Lib.hid (HH.out.call bq)
                  clear bq HH HVA
                  have HH := HQ
                  clear HQ
                  have HSU := Lib.hid (rsum_any (valsF a.T) A8 (valsV a.T).length c8 w8.heap.size w8 (by rw [← vals_cells]; exact r8.reads (enc1_len _)) (by have := HN.out.o; have h := valsV_len a.T; unfold maxLen; omega))
                  obtain ⟨so, hso⟩ : ∃ so, sumO 0 (valsF a.T) = so := ⟨_, rfl⟩
                  rw [hso] at HSU
                  have HMY := Lib.hid (show moneyF a.T = (so.isNone || balF a.T) by unfold moneyF; rw [hso])
                  clear hso r8
                  go_wp2_with fail
                  refine HSU.out.mono ?_
                  rintro e w9 ⟨rfl, rfl⟩
                  clear HSU
                  cases so with
                  | none =>
                    have HM := Lib.hid (show moneyF a.T = true by rw [HMY.out]; rfl)
                    have hvn : valO none = 0 := rfl
                    have hen : errO none = 20 := rfl
                    unfold resO
                    rw [hvn, hen]
                    clear hvn hen
                    go_wp2_with fail
                    go_ret
                    exact ⟨by rw [checkF_money HE.out HNO.out HCO.out HT.out HM.out]; rfl, HH.out.below⟩
                  | some s0 =>
                    have hvn : valO (some s0) = s0 := rfl
                    have hen : errO (some s0) = 0 := rfl
                    unfold resO
                    rw [hvn, hen]
                    clear hvn hen
                    have k1 : w8.cell? ⟨w.heap.size, 1, none⟩ = some (.slice a.Ai a.T.ins.length a.ci) := TxA.c1 (RowC.of_blk (HH.out.at (x := (w.heap.size, 29, a.cells.toArray)) (by simp)))
                    have k2 : w8.cell? ⟨w.heap.size, 2, none⟩ = some (.slice a.Ao a.T.outs.length a.co) := TxA.c2 (RowC.of_blk (HH.out.at (x := (w.heap.size, 29, a.cells.toArray)) (by simp)))
                    have k4 : w8.cell? ⟨w.heap.size, 35, none⟩ = some (.slice a.An a.T.nulls.length a.cn) := TxA.c4 (RowC.of_blk (HH.out.at (x := (w.heap.size, 29, a.cells.toArray)) (by simp)))
                    have k5 : w8.cell? ⟨w.heap.size, 36, none⟩ = some (.slice a.At a.T.notes.length a.ct) := TxA.c5 (RowC.of_blk (HH.out.at (x := (w.heap.size, 29, a.cells.toArray)) (by simp)))
                    have k6 : w8.cell? ⟨w.heap.size, 37, none⟩ = some (.int .i64 a.T.bal.1) := TxA.c6 (RowC.of_blk (HH.out.at (x := (w.heap.size, 29, a.cells.toArray)) (by simp)))
                    obtain ⟨q1, hq1⟩ : ∃ q, decide (a.T.bal.1 < -2100000000000000) = q := ⟨_, rfl⟩
                    obtain ⟨q2, hq2⟩ : ∃ q, decide (2100000000000000 < a.T.bal.1) = q := ⟨_, rfl⟩
                    obtain ⟨q3, hq3⟩ : ∃ q, decide (0 < a.T.bal.1) = q := ⟨_, rfl⟩
                    obtain ⟨q4, hq4⟩ : ∃ q, decide (a.T.bal.1 < 0) = q := ⟨_, rfl⟩
                    obtain ⟨x3, hx3⟩ : ∃ q, ((a.T.nulls.length : Int) == 0) = q := ⟨_, rfl⟩
                    obtain ⟨x4, hx4⟩ : ∃ q, ((a.T.notes.length : Int) == 0) = q := ⟨_, rfl⟩
                    have HBF := Lib.hid (show moneyF a.T = (q1 || q2 || (q3 && x3) || (q4 && x4)) by
                      rw [HMY.out]
                      unfold balF
                      rw [hq1, hq2, hq3, hq4]
                      have h3 : decide (a.T.nulls.length = 0) = x3 := by rw [← hx3, Bool.eq_iff_iff, decide_eq_true_iff, beq_iff_eq]; omega
                      have h4 : decide (a.T.notes.length = 0) = x4 := by rw [← hx4, Bool.eq_iff_iff, decide_eq_true_iff, beq_iff_eq]; omega
                      rw [h3, h4]
                      simp)
                    cases q1 with
                    | true =>
                      have HM := Lib.hid (show moneyF a.T = true by rw [HBF.out]; simp)
                      go_wp2_with fail
                      go_ret
                      exact ⟨by rw [checkF_money HE.out HNO.out HCO.out HT.out HM.out]; rfl, HH.out.below⟩
                    | false =>
                      cases q2 with
                      | true =>
                        have HM := Lib.hid (show moneyF a.T = true by rw [HBF.out]; simp)
                        go_wp2_with fail
                        go_ret
                        exact ⟨by rw [checkF_money HE.out HNO.out HCO.out HT.out HM.out]; rfl, HH.out.below⟩
                      | false =>
                        cases q3 with
                        | true =>
                          cases x3 with
                          | true =>
                            have HM := Lib.hid (show moneyF a.T = true by rw [HBF.out]; simp)
                            go_wp2_with fail
                            go_ret
                            exact ⟨by rw [checkF_money HE.out HNO.out HCO.out HT.out HM.out]; rfl, HH.out.below⟩
                          | false =>
                            cases q4 with
                            | true =>
                              cases x4 with
                              | true =>
                                have HM := Lib.hid (show moneyF a.T = true by rw [HBF.out]; simp)
                                go_wp2_with fail
                                go_ret
                                exact ⟨by rw [checkF_money HE.out HNO.out HCO.out HT.out HM.out]; rfl, HH.out.below⟩
                              | false =>
                                have HM := Lib.hid (show moneyF a.T = false by rw [HBF.out]; simp)
                                go_wp2_with fail
                                go_ret
                                exact ⟨by rw [checkF_ok HE.out HNO.out HCO.out HT.out HM.out]; rfl, HH.out.below⟩
                            | false =>
                              have HM := Lib.hid (show moneyF a.T = false by rw [HBF.out]; simp)
                              go_wp2_with fail
                              go_ret
                              exact ⟨by rw [checkF_ok HE.out HNO.out HCO.out HT.out HM.out]; rfl, HH.out.below⟩
                        | false =>
                          cases q4 with
                          | true =>
                            cases x4 with
                            | true =>
                              have HM := Lib.hid (show moneyF a.T = true by rw [HBF.out]; simp)
                              go_wp2_with fail
                              go_ret
                              exact ⟨by rw [checkF_money HE.out HNO.out HCO.out HT.out HM.out]; rfl, HH.out.below⟩
                            | false =>
                              have HM := Lib.hid (show moneyF a.T = false by rw [HBF.out]; simp)
                              go_wp2_with fail
                              go_ret
                              exact ⟨by rw [checkF_ok HE.out HNO.out HCO.out HT.out HM.out]; rfl, HH.out.below⟩
                          | false =>
                            have HM := Lib.hid (show moneyF a.T = false by rw [HBF.out]; simp)
                            go_wp2_with fail
                            go_ret
                            exact ⟨by rw [checkF_ok HE.out HNO.out HCO.out HT.out HM.out]; rfl, HH.out.below⟩
  · have hne : (er != 0) = true := by simpa using h0
    go_wp2_with fail
    go_ret
    exact ⟨by rw [checkF_enc (by rw [HE0.out]; exact h0), HE0.out]; rfl, HH.out.below⟩
end Go.Proofs.Ytimhophelecmjaa
