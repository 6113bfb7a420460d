/- CostRight's walk. Written by genLC14r.py. -/
import Derived.Test.YtpoejbfcioijhaaCosR
namespace Go.Proofs.Ytpoejbfcioijhaa
open Go.RowKit
theorem coInfo : (Try.prog.info? 2).map (fun i => (i.zero, i.size, i.bytes)) = some (some (.int .i64 0), 1, 8) := by kernel_rfl
theorem wf_u16q (z : IntV .u16) : 0 ≤ z.1 ∧ z.1 < 65536 := by
  have := z.2
  simp [Lit.wf, IntKind.min, IntKind.max, IntKind.signed, IntKind.bits] at this
  omega
theorem co_row {W : World} {base n : Nat} {so : Value} {l : List (IntV .i64)} (hl : l.length = n) (h : W.ownsRow base 2 1 so n (cellsOf (enc1 .i64) l)) : ∃ A c, so = .slice A l.length c ∧ RowIn (enc1 .i64) 1 W W.heap.size A c l := by
  subst hl
  exact RowIn.of_own (enc1_len _) h
def repZ (z : IntV .i64) (n : Nat) : List (IntV .i64) := List.replicate n z
theorem repZ_cells (z : IntV .i64) (n : Nat) : cellsOf (enc1 .i64) (repZ z n) ++ [.int .i64 z.1] = cellsOf (enc1 .i64) (repZ z (n + 1)) := by
  unfold repZ
  rw [List.replicate_succ']
  unfold cellsOf
  rw [List.flatMap_append]
  rfl
theorem repZ_len (z : IntV .i64) (n : Nat) : (repZ z n).length = n := List.length_replicate
set_option maxRecDepth 20000 in
set_option maxHeartbeats 4000000 in
theorem cosRight_walk (HSU : SumOk) (HPI : PickOk) (HCO : CostTOk) (z : IntV .i64) (m : IntV .u16) (d : IntV .u64) (w : World) :
    Calls Try.prog 6 #[.int .i64 z.1, .int .u16 m.1, .int .u64 d.1] w fun e w' => e = .returned (.bool true) ∧ Below w.heap.size w w' := by
  have SH := Lib.hid (fun W => cosshown_any HPI HCO W)
  obtain ⟨n, hn, hnm⟩ : ∃ n : Nat, n < 1100 ∧ m.1.tmod 1100 = (n : Int) := by
    have h := wf_u16q m
    have h1 := Int.tmod_nonneg (1100 : Int) h.1
    have h2 := Int.tmod_lt_of_pos m.1 (show (0 : Int) < 1100 by decide)
    exact ⟨(m.1.tmod 1100).toNat, by omega, by omega⟩
  have hcv : IntKind.i64.wrap m.1 = m.1 := by have := wf_u16q m; rw [IntKind.wrap_i64]; omega
  have HN := Lib.hid hn
  have S1 := Lib.hid (show ∀ (A : Option Addr) (c : Nat) (W : World), RowIn (enc1 .i64) 1 W W.heap.size A c (repZ z n) → Calls Try.prog 10 #[.slice A n c] W fun e w' => e = .returned (sumV (repZ z n)) ∧ Below W.heap.size W w' from fun A c W h => by have := HSU A c (repZ z n) W h (by rw [repZ_len]; omega); rwa [repZ_len] at this)
  have P1 := Lib.hid (show ∀ (A : Option Addr) (c : Nat) (W : World), RowIn (enc1 .i64) 1 W W.heap.size A c (repZ z n) → Calls Try.prog 12 #[.slice A n c, .int .u64 d.1] W fun e w' => e = .returned (pickV (repZ z n) d.1) ∧ Below W.heap.size W w' from fun A c W h => by have := HPI A c (repZ z n) d W h (by rw [repZ_len]; omega); rwa [repZ_len] at this)
  have O0 := Lib.hid (show World.ownsRow (w.alloc (.cells #[] 2)) w.heap.size 2 1 (.slice (some ⟨w.heap.size, 0, none⟩) 0 0) 0 (cellsOf (enc1 .i64) (repZ z 0)) from ⟨by simp [repZ, cellsOf], .inr ⟨w.heap.size, 0, #[], rfl, Nat.le_refl _, Blk.new w 2 #[], Nat.le_refl _, Nat.zero_le _, by simp, by simp [repZ, cellsOf]⟩⟩)
  have B0 := Lib.hid (show Below w.heap.size w (w.alloc (.cells #[] 2)) from (Below.refl _ _).alloc (Nat.le_refl _) _)
  clear HSU HPI HCO
  go_enter Try.func6, Try.ntmps6
  go_wp2_with fail
  clear hnm hcv
  go_loopw [8, 9] (fun so si wr => ∃ j : Nat, si = .int .i64 j ∧ j ≤ n ∧ Hid (wr.ownsRow w.heap.size 2 1 so j (cellsOf (enc1 .i64) (repZ z j))) ∧ Hid (Below w.heap.size w wr)) (fun _ si _ => n - (intOf si).toNat)
  case atStart => exact ⟨0, rfl, Nat.zero_le _, O0, B0⟩
  case round =>
    clear O0 B0
    obtain ⟨j, rfl, hj, HO, HB⟩ := hrel
    by_cases hlt : j < n
    · have hd : decide ((j : Int) < (n : Int)) = true := by simp; omega
      have HLT := Lib.hid hlt
      have HSZ := Lib.hid (show w.heap.size ≤ wr.heap.size from HB.out.size)
      go_wp2_with (first
        | ((with_reducible refine at_appendg 27 24 26 ?_); refine wpList_append1g rfl (.tmp 24) (.tmp 26) 30 rfl w.heap.size 2 _ 8 Try.underlying30 coInfo rfl (by omega) _ j _ rfl (HO.out.alloc _) _ 1 (.int .i64 z.1) rfl (Blk.new _ _ _) rfl (by have := HN.out; omega) (by have := HSZ.out; simp; omega) ?_; intro v2 w2 o2 g2 _
           rw [repZ_cells] at o2
           have O2 := Lib.hid o2
           have B2 := Lib.hid (HB.out.trans (((Below.refl w.heap.size wr).alloc HSZ.out (.cells #[.int .i64 z.1] 2)).trans ((Below.refl w.heap.size _).grown g2 (by have := HSZ.out; simp; omega) (own_base (HO.out.alloc (.cells #[.int .i64 z.1] 2))))))
           clear o2 g2))
      go_roundw
      case rel => exact ⟨j + 1, by go_num, HLT.out, O2, B2⟩
      case measure => have := HLT.out; simp [intOf]; omega
    · have hd : decide ((j : Int) < (n : Int)) = false := by simp; omega
      obtain rfl : j = n := by omega
      obtain ⟨A, c, rfl, r0⟩ := co_row (repZ_len z j) HO.out
      rw [repZ_len]
      have R0 := Lib.hid r0
      clear r0 HO hj hlt
      by_cases hL : 1000 < j
      · have hk : decide ((j : Int) ≤ 1000) = false := decide_eq_false (by omega)
        have HS := Lib.hid (show sumV (repZ z j) = .tuple #[.int .i64 0, .bool false] by unfold sumV; rw [show sumW (repZ z j) = none from cos_sumW_long z j hL]; rfl)
        have HP := Lib.hid (show pickV (repZ z j) d.1 = .tuple #[.int .i64 0, .bool false] by unfold pickV pickW; rw [show sumW (repZ z j) = none from cos_sumW_long z j hL]; rfl)
        clear hL
        go_wp2_with fail
        with_reducible refine (S1.out _ _ _ R0.out).mono ?_
        rintro e w3 ⟨rfl, bq⟩
        rw [HS.out]
        have R1 := Lib.hid ((R0.out.below bq).more bq.size)
        have B1 := Lib.hid (HB.out.trans (bq.mono HB.out.size))
        clear bq HB R0 S1
        go_wp2_with fail
        with_reducible refine (P1.out _ _ _ R1.out).mono ?_
        rintro e w4 ⟨rfl, bq⟩
        rw [HP.out]
        have B2 := Lib.hid (B1.out.trans (bq.mono B1.out.size))
        clear bq B1 R1 P1
        go_wp2_with fail
        refine (SH.out _).mono ?_
        rintro e w5 ⟨rfl, bq⟩
        have B3 := Lib.hid (B2.out.trans (bq.mono B2.out.size))
        clear bq B2
        go_wp2_with fail
        go_ret
        exact ⟨by first | rfl | simp, B3.out⟩
      have hk : decide ((j : Int) ≤ 1000) = true := decide_eq_true (by omega)
      by_cases h0 : j = 0
      · have e0 : ((j : Int) == 0) = true := beq_iff_eq.mpr (by omega)
        have e1 : decide ((0 : Int) < (j : Int)) = false := decide_eq_false (by omega)
        have e2 : ¬ 0 < j := by omega
        have hsw : sumW (repZ z j) = some 0 := by rw [show sumW (repZ z j) = some (z.1 * j) from cos_sumW z j (by omega) (.inl h0), h0]; simp
        have HS := Lib.hid (show sumV (repZ z j) = .tuple #[.int .i64 0, .bool true] by unfold sumV; rw [hsw]; rfl)
        have HP := Lib.hid (show pickV (repZ z j) d.1 = .tuple #[.int .i64 0, .bool false] by unfold pickV pickW; rw [hsw]; rfl)
        clear hsw hL
        subst h0
        go_wp2_with fail
        with_reducible refine (S1.out _ _ _ R0.out).mono ?_
        rintro e w3 ⟨rfl, bq⟩
        rw [HS.out]
        have R1 := Lib.hid ((R0.out.below bq).more bq.size)
        have B1 := Lib.hid (HB.out.trans (bq.mono HB.out.size))
        clear bq HB R0 S1
        go_wp2_with fail
        with_reducible refine (P1.out _ _ _ R1.out).mono ?_
        rintro e w4 ⟨rfl, bq⟩
        rw [HP.out]
        have B2 := Lib.hid (B1.out.trans (bq.mono B1.out.size))
        clear bq B1 R1 P1
        go_wp2_with fail
        refine (SH.out _).mono ?_
        rintro e w5 ⟨rfl, bq⟩
        have B3 := Lib.hid (B2.out.trans (bq.mono B2.out.size))
        clear bq B2
        go_wp2_with fail
        go_ret
        exact ⟨by first | rfl | simp, B3.out⟩
      have e0 : ((j : Int) == 0) = false := beq_eq_false_iff_ne.mpr (by omega)
      have e1 : 0 < j := by omega
      have e2 : decide ((0 : Int) < (j : Int)) = true := decide_eq_true (by omega)
      cases hk2 : okW z with
      | false =>
        have hsw : sumW (repZ z j) = none := cos_sumW_bad z j e1 hk2
        have HS := Lib.hid (show sumV (repZ z j) = .tuple #[.int .i64 0, .bool false] by unfold sumV; rw [hsw]; rfl)
        have HP := Lib.hid (show pickV (repZ z j) d.1 = .tuple #[.int .i64 0, .bool false] by unfold pickV pickW; rw [hsw]; rfl)
        have hz2 : (decide (1 ≤ z.1) && decide (z.1 ≤ 1099511627776)) = false := by
          unfold okW at hk2
          rw [Bool.eq_false_iff] at hk2 ⊢
          intro q
          refine hk2 ?_
          rw [Bool.and_eq_true, decide_eq_true_iff, decide_eq_true_iff] at q
          rw [Bool.and_eq_true, Bool.not_eq_true', Bool.not_eq_true', decide_eq_false_iff_not, decide_eq_false_iff_not]
          omega
        clear hsw hk2 h0 hL
        obtain ⟨q1, hq1⟩ : ∃ q, decide (1 ≤ z.1) = q := ⟨_, rfl⟩
        obtain ⟨q2, hq2⟩ : ∃ q, decide (z.1 ≤ 1099511627776) = q := ⟨_, rfl⟩
        rw [hq1, hq2] at hz2
        cases q1 with
        | false =>
          clear hz2
          go_wp2_with fail
          with_reducible refine (S1.out _ _ _ R0.out).mono ?_
          rintro e w3 ⟨rfl, bq⟩
          rw [HS.out]
          have R1 := Lib.hid ((R0.out.below bq).more bq.size)
          have B1 := Lib.hid (HB.out.trans (bq.mono HB.out.size))
          clear bq HB R0 S1
          go_wp2_with fail
          with_reducible refine (P1.out _ _ _ R1.out).mono ?_
          rintro e w4 ⟨rfl, bq⟩
          rw [HP.out]
          have B2 := Lib.hid (B1.out.trans (bq.mono B1.out.size))
          clear bq B1 R1 P1
          go_wp2_with fail
          refine (SH.out _).mono ?_
          rintro e w5 ⟨rfl, bq⟩
          have B3 := Lib.hid (B2.out.trans (bq.mono B2.out.size))
          clear bq B2
          go_wp2_with fail
          go_ret
          exact ⟨by first | rfl | simp, B3.out⟩
        | true =>
          cases q2 with
          | true => simp at hz2
          | false =>
            clear hz2
            go_wp2_with fail
            with_reducible refine (S1.out _ _ _ R0.out).mono ?_
            rintro e w3 ⟨rfl, bq⟩
            rw [HS.out]
            have R1 := Lib.hid ((R0.out.below bq).more bq.size)
            have B1 := Lib.hid (HB.out.trans (bq.mono HB.out.size))
            clear bq HB R0 S1
            go_wp2_with fail
            with_reducible refine (P1.out _ _ _ R1.out).mono ?_
            rintro e w4 ⟨rfl, bq⟩
            rw [HP.out]
            have B2 := Lib.hid (B1.out.trans (bq.mono B1.out.size))
            clear bq B1 R1 P1
            go_wp2_with fail
            refine (SH.out _).mono ?_
            rintro e w5 ⟨rfl, bq⟩
            have B3 := Lib.hid (B2.out.trans (bq.mono B2.out.size))
            clear bq B2
            go_wp2_with fail
            go_ret
            exact ⟨by first | rfl | simp, B3.out⟩
      | true =>
        have hz := okW_rng hk2
        have hsw : sumW (repZ z j) = some (z.1 * j) := cos_sumW z j (by omega) (.inr hk2)
        have hj1 : (1 : Int) ≤ (j : Int) := by omega
        have hs1 : 1 ≤ z.1 * j := by have := Int.mul_le_mul hz.1 hj1 (by omega) (by omega); omega
        have hs2 : z.1 * j ≤ 1099511627776 * 1000 := Int.mul_le_mul hz.2 (show (j : Int) ≤ 1000 by omega) (by omega) (by omega)
        obtain ⟨s, hs⟩ : ∃ s, z.1 * (j : Int) = s := ⟨_, rfl⟩
        rw [hs] at hsw hs1 hs2
        obtain ⟨r, hr⟩ : ∃ r, d.1.tmod s = r := ⟨_, rfl⟩
        have hr1 : 0 ≤ r := hr ▸ Int.tmod_nonneg s (wf_u64r d).1
        have hr2 : r < s := hr ▸ Int.tmod_lt_of_pos d.1 (by omega)
        obtain ⟨p, hp⟩ : ∃ p, pickN r (repZ z j) = p := ⟨_, rfl⟩
        have hpq : (p : Int) = r / z.1 := by rw [← hp]; exact cos_pickN z hz.1 j r hr1 (hs ▸ hr2)
        have hpt : r.tdiv z.1 = (p : Int) := by rw [hpq, Int.tdiv_eq_ediv_of_nonneg hr1]
        have hp2 : (p : Int) ≤ r := by rw [hpq]; exact Int.ediv_le_self _ hr1
        have HS := Lib.hid (show sumV (repZ z j) = .tuple #[.int .i64 s, .bool true] by unfold sumV; rw [hsw]; rfl)
        have HP := Lib.hid (show pickV (repZ z j) d.1 = .tuple #[.int .i64 (p : Int), .bool true] by
          unfold pickV pickW
          rw [hsw]
          simp only [show s ≠ 0 by omega, if_false, hr, hp]
          rfl)
        have hz1 : decide (1 ≤ z.1) = true := decide_eq_true hz.1
        have hz2 : decide (z.1 ≤ 1099511627776) = true := decide_eq_true hz.2
        have hw1 : IntKind.i64.wrap (z.1 * (j : Int)) = s := by rw [hs, IntKind.wrap_i64]; omega
        have hw2 : s % 18446744073709551616 = s := by omega
        have hw3 : z.1 % 18446744073709551616 = z.1 := by omega
        have hw4 : IntKind.u64.wrap s = s := by rw [show IntKind.u64.wrap s = s % 18446744073709551616 from rfl]; exact hw2
        have hw5 : IntKind.u64.wrap z.1 = z.1 := by rw [show IntKind.u64.wrap z.1 = z.1 % 18446744073709551616 from rfl]; exact hw3
        have hw6 : IntKind.i64.wrap (p : Int) = (p : Int) := by rw [IntKind.wrap_i64]; omega
        have hw7 : (s == 0) = false := beq_eq_false_iff_ne.mpr (by omega)
        have hw8 : (z.1 == 0) = false := beq_eq_false_iff_ne.mpr (by omega)
        have hs0 : ¬ s = 0 := by omega
        have hz0 : ¬ z.1 = 0 := by omega
        have hw9 : IntKind.u64.wrap (p : Int) = (p : Int) := by rw [show IntKind.u64.wrap (p : Int) = (p : Int) % 18446744073709551616 from rfl]; omega
        have hw10 : ((p : Nat) : Int) % 18446744073709551616 = (p : Int) := by omega
        clear hsw hs hk2 hp hpq hs1 hs2 hr1 hr2 hp2 hz h0 hL hj1
        go_wp2_with fail
        with_reducible refine (S1.out _ _ _ R0.out).mono ?_
        rintro e w3 ⟨rfl, bq⟩
        rw [HS.out]
        have R1 := Lib.hid ((R0.out.below bq).more bq.size)
        have B1 := Lib.hid (HB.out.trans (bq.mono HB.out.size))
        clear bq HB R0 S1
        go_wp2_with fail
        with_reducible refine (P1.out _ _ _ R1.out).mono ?_
        rintro e w4 ⟨rfl, bq⟩
        rw [HP.out]
        have B2 := Lib.hid (B1.out.trans (bq.mono B1.out.size))
        clear bq B1 R1 P1
        go_wp2_with fail
        refine (SH.out _).mono ?_
        rintro e w5 ⟨rfl, bq⟩
        have B3 := Lib.hid (B2.out.trans (bq.mono B2.out.size))
        clear bq B2
        go_wp2_with fail
        go_ret
        exact ⟨by first | rfl | simp, B3.out⟩
end Go.Proofs.Ytpoejbfcioijhaa
