/- tx's reader: a transaction is read. Written by genTx.py. -/
import Derived.Test.YthpnmmilioonhaaTxU
namespace Go.Proofs.Ythpnmmilioonhaa
open Go.RowKit
/-- a transaction as an answer -/
def VT (T : TxV) (v : Value) (w : World) : Prop := ∃ a : TxA, a.T = T ∧ v = .agg a.cells.toArray ∧ TL w a
set_option maxRecDepth 20000 in
set_option maxHeartbeats 4000000 in
theorem tx_r (r0 : List UInt8) (hs : r0.length ≤ 1000000) (g : Nat) (w : World) (hr : Rb w g r0) :
    Calls Try.prog 82 #[.pointer (some ⟨g, 0, none⟩)] w (EndR VT g w (txR r0)) := by
  have hmf : ∀ (fn : Fn) (first cap : Array Value) (w : World), (Instr.makeFunc fn first cap).run Try.prog w = .ok (.func fn first cap) w := fun _ _ _ _ => rfl
  obtain ⟨X, hX⟩ : ∃ X, txR r0 = X := ⟨_, rfl⟩
  rw [hX]
  have HX := Lib.hid hX
  have ST0 : ∀ c2 c3 : Array Value, c2.size = 38 → c3 = aZ.cells.toArray → RdSt w g w.heap.size (w.heap.size + 1) aZ ((w.alloc (.cells c2 44)).alloc (.cells c3 44)) r0 := fun c2 c3 h2 h3 =>
    ⟨(hr.alloc _).alloc _, hs, Past.of_below (((Below.refl _ _).alloc (Nat.le_refl _) _).alloc (by simp) _), ⟨_, h2, (Blk.new w _ _).alloc _⟩, h3 ▸ blk_new _ _ (by simp), by omega, Nat.le_refl _, by omega, ⟨.inl ⟨rfl, rfl, rfl⟩, .inl ⟨rfl, rfl, rfl⟩, .inl ⟨rfl, rfl, rfl⟩, .inl ⟨rfl, rfl, rfl⟩⟩⟩
  have HST := Lib.hid ST0
  have HRA := Lib.hid (fun cs => (show Rb (w.alloc (.cells cs 44)) g r0 from hr.alloc _))
  have HPA := Lib.hid (fun c2 c3 => (show Past g w ((w.alloc (.cells c2 44)).alloc (.cells c3 44)) from Past.of_below (((Below.refl _ _).alloc (Nat.le_refl _) _).alloc (by simp) _)))
  clear hX hr ST0
  go_enter Try.func82, Try.ntmps82
  go_wp2_with fail
  have hc := u32_r r0 hs g
  cases hq0 : u32R r0 with
  | error er =>
    rw [hq0] at hc
    have HE := Lib.hid (show X = .error er by rw [← HX.out]; simp only [txR, mapR, thenR, hq0])
    have HC := Lib.hid hc
    clear hq0 hc
    refine (HC.out _ ((HRA.out _).alloc _)).mono ?_
    rintro e wx ⟨rfl, px⟩
    refine ⟨rfl, ?_⟩
    rw [HE.out]
    exact ⟨rfl, (HPA.out _ _).trans px⟩
  | ok x =>
    obtain ⟨z0, r1⟩ := x
    rw [hq0] at hc
    have HQ0 := Lib.hid hq0
    have hl := rest_len good_u32 hq0 hs
    have HC := Lib.hid hc
    have HL := Lib.hid hl
    clear hq0 hc hl
    refine (HC.out _ ((HRA.out _).alloc _)).mono ?_
    rintro e w1 ⟨v, rfl, hv, bx, px⟩
    have hv' : v = .int .u32 z0.1 := hv
    subst hv'
    have ST := Lib.hid ((HST.out _ _ (by kernel_rfl) (by kernel_rfl)).call px bx HL.out)
    clear hv bx px HC HL HST HRA HPA hs
    go_wp2_with ((with_reducible refine at_store 7 6 ?_); refine wpList_store_cell rfl 25 (.tmp 7) (.tmp 6) rfl rfl (w.heap.size + 1) 0 (.int .u32 z0.1) rfl rfl rfl 44 _ ST.out.k3 (by rw [tyTx.arr]; omega) (by kernel_rfl) ?_; intro v1 ox bx; rw [TxA.set_exp] at bx; have ST' := Lib.hid (ST.out.set ox bx ⟨(ST.out.tl.only ox ST.out.k3).ins, (ST.out.tl.only ox ST.out.k3).outs, (ST.out.tl.only ox ST.out.k3).nulls, (ST.out.tl.only ox ST.out.k3).notes⟩); clear ST ox bx; have ST := ST'; clear ST')
    have hc := count_r r1 ST.out.len g _ ST.out.rb
    cases hq1 : numR r1 with
    | error er =>
      rw [hq1] at hc
      have HE := Lib.hid (show X = .error er by rw [← HX.out]; simp only [txR, mapR, thenR, manyR, HQ0.out, hq1])
      have PP := Lib.hid ST.out.past
      have HC := Lib.hid hc
      clear hq1 hc ST
      refine HC.out.mono ?_
      rintro e wx ⟨rfl, px⟩
      refine ⟨rfl, ?_⟩
      rw [HE.out]
      exact ⟨rfl, PP.out.trans px⟩
    | ok x =>
      obtain ⟨n1, r2⟩ := x
      rw [hq1] at hc
      have HQ1 := Lib.hid hq1
      have hl := rest_len good_num hq1 ST.out.len
      have hb := (good_num.bwd _ _ _ hq1).1
      have HC := Lib.hid hc
      have HL := Lib.hid hl
      have HB := Lib.hid hb
      clear hq1 hc hl hb
      refine HC.out.mono ?_
      rintro e w2 ⟨v, rfl, rfl, bx, px⟩
      have ST' := Lib.hid (ST.out.call px bx HL.out)
      clear ST bx px HC HL
      have ST := ST'
      clear ST'
      have N1 := Lib.hid HB.out
      clear HB
      go_wp2_with fail
      have hc := listPt_r n1 (by have := N1.out; omega) r2 ST.out.len g _ ST.out.rb
      cases hq2 : listR ptR n1 r2 with
      | error er =>
        rw [hq2] at hc
        have HE := Lib.hid (show X = .error er by rw [← HX.out]; simp only [txR, mapR, thenR, manyR, HQ0.out, HQ1.out, hq2])
        have PP := Lib.hid ST.out.past
        have HC := Lib.hid hc
        clear hq2 hc ST
        refine HC.out.mono ?_
        rintro e wx ⟨rfl, px⟩
        refine ⟨rfl, ?_⟩
        rw [HE.out]
        exact ⟨rfl, PP.out.trans px⟩
      | ok x =>
        obtain ⟨l1, r3⟩ := x
        rw [hq2] at hc
        have HQ2 := Lib.hid hq2
        have hl := rest_len (good_pt.list n1) hq2 ST.out.len
        have hb := ((good_pt.list n1).bwd _ _ _ hq2).1
        have HC := Lib.hid hc
        have HL := Lib.hid hl
        have HB := Lib.hid hb
        clear hq2 hc hl hb
        refine HC.out.mono ?_
        rintro e w3 ⟨v, rfl, hv, bx, px⟩
        obtain ⟨A1, rfl, lb⟩ := LB.mk hv
        have LB1 := Lib.hid lb
        clear hv lb
        have ST' := Lib.hid (ST.out.call px bx HL.out)
        clear ST bx px HC HL
        have ST := ST'
        clear ST'
        go_wp2_with ((with_reducible refine at_store 13 12 ?_); refine wpList_store_cell rfl 40 (.tmp 13) (.tmp 12) rfl rfl (w.heap.size + 1) 1 (.slice A1 l1.length l1.length) rfl rfl rfl 44 _ ST.out.k3 (by rw [tyTx.arr]; omega) (by kernel_rfl) ?_; intro v3 ox bx; rw [TxA.set_ins'] at bx; have ST' := Lib.hid (ST.out.set ox bx ⟨LB1.out.only ox ST.out.k3 (by decide), (ST.out.tl.only ox ST.out.k3).outs, (ST.out.tl.only ox ST.out.k3).nulls, (ST.out.tl.only ox ST.out.k3).notes⟩); clear ST ox bx; have ST := ST'; clear ST')
        have hc := count_r r3 ST.out.len g _ ST.out.rb
        cases hq3 : numR r3 with
        | error er =>
          rw [hq3] at hc
          have HE := Lib.hid (show X = .error er by rw [← HX.out]; simp only [txR, mapR, thenR, manyR, HQ0.out, HQ1.out, HQ2.out, hq3])
          have PP := Lib.hid ST.out.past
          have HC := Lib.hid hc
          clear hq3 hc ST
          refine HC.out.mono ?_
          rintro e wx ⟨rfl, px⟩
          refine ⟨rfl, ?_⟩
          rw [HE.out]
          exact ⟨rfl, PP.out.trans px⟩
        | ok x =>
          obtain ⟨n2, r4⟩ := x
          rw [hq3] at hc
          have HQ3 := Lib.hid hq3
          have hl := rest_len good_num hq3 ST.out.len
          have hb := (good_num.bwd _ _ _ hq3).1
          have HC := Lib.hid hc
          have HL := Lib.hid hl
          have HB := Lib.hid hb
          clear hq3 hc hl hb
          refine HC.out.mono ?_
          rintro e w4 ⟨v, rfl, rfl, bx, px⟩
          have ST' := Lib.hid (ST.out.call px bx HL.out)
          clear ST bx px HC HL
          have ST := ST'
          clear ST'
          have N2 := Lib.hid HB.out
          clear HB
          go_wp2_with fail
          have hc := listOut_r n2 (by have := N2.out; omega) r4 ST.out.len g _ ST.out.rb
          cases hq4 : listR outR n2 r4 with
          | error er =>
            rw [hq4] at hc
            have HE := Lib.hid (show X = .error er by rw [← HX.out]; simp only [txR, mapR, thenR, manyR, HQ0.out, HQ1.out, HQ2.out, HQ3.out, hq4])
            have PP := Lib.hid ST.out.past
            have HC := Lib.hid hc
            clear hq4 hc ST
            refine HC.out.mono ?_
            rintro e wx ⟨rfl, px⟩
            refine ⟨rfl, ?_⟩
            rw [HE.out]
            exact ⟨rfl, PP.out.trans px⟩
          | ok x =>
            obtain ⟨l2, r5⟩ := x
            rw [hq4] at hc
            have HQ4 := Lib.hid hq4
            have hl := rest_len (good_out.list n2) hq4 ST.out.len
            have hb := ((good_out.list n2).bwd _ _ _ hq4).1
            have HC := Lib.hid hc
            have HL := Lib.hid hl
            have HB := Lib.hid hb
            clear hq4 hc hl hb
            refine HC.out.mono ?_
            rintro e w5 ⟨v, rfl, hv, bx, px⟩
            obtain ⟨A2, rfl, lb⟩ := LB.mk hv
            have LB2 := Lib.hid lb
            clear hv lb
            have ST' := Lib.hid (ST.out.call px bx HL.out)
            clear ST bx px HC HL
            have ST := ST'
            clear ST'
            go_wp2_with ((with_reducible refine at_store 19 18 ?_); refine wpList_store_cell rfl 41 (.tmp 19) (.tmp 18) rfl rfl (w.heap.size + 1) 2 (.slice A2 l2.length l2.length) rfl rfl rfl 44 _ ST.out.k3 (by rw [tyTx.arr]; omega) (by kernel_rfl) ?_; intro v5 ox bx; rw [TxA.set_outs] at bx; have ST' := Lib.hid (ST.out.set ox bx ⟨(ST.out.tl.only ox ST.out.k3).ins, LB2.out.only ox ST.out.k3 (by decide), (ST.out.tl.only ox ST.out.k3).nulls, (ST.out.tl.only ox ST.out.k3).notes⟩); clear ST ox bx; have ST := ST'; clear ST')
            have hc := count_r r5 ST.out.len g _ ST.out.rb
            cases hq10 : numR r5 with
            | error er =>
              rw [hq10] at hc
              have HE := Lib.hid (show X = .error er by rw [← HX.out]; simp only [txR, mapR, thenR, manyR, nullR, HQ0.out, HQ1.out, HQ2.out, HQ3.out, HQ4.out, hq10])
              have PP := Lib.hid ST.out.past
              have HC := Lib.hid hc
              clear hq10 hc ST
              refine HC.out.mono ?_
              rintro e wx ⟨rfl, px⟩
              refine ⟨rfl, ?_⟩
              rw [HE.out]
              exact ⟨rfl, PP.out.trans px⟩
            | ok x =>
              obtain ⟨n3, r11⟩ := x
              rw [hq10] at hc
              have HQ10 := Lib.hid hq10
              have hl := rest_len good_num hq10 ST.out.len
              have hb := (good_num.bwd _ _ _ hq10).1
              have HC := Lib.hid hc
              have HL := Lib.hid hl
              have HB := Lib.hid hb
              clear hq10 hc hl hb
              refine HC.out.mono ?_
              rintro e w11 ⟨v, rfl, rfl, bx, px⟩
              have ST' := Lib.hid (ST.out.call px bx HL.out)
              clear ST bx px HC HL
              have ST := ST'
              clear ST'
              have N3 := Lib.hid HB.out
              clear HB
              by_cases h0 : n3 = 0
              · have N0 := Lib.hid h0
                have hd : decide (0 < n3) = false := by simp only [decide_eq_false_iff_not]; omega
                clear h0
                go_wp2_with fail
                have hc := listKey_r n3 (by have := N3.out; omega) r11 ST.out.len g _ ST.out.rb
                cases hq5 : listR keyR n3 r11 with
                | error er =>
                  rw [hq5] at hc
                  have HE := Lib.hid (show X = .error er by rw [← HX.out]; simp only [txR, mapR, thenR, manyR, nullR, ancR, if_pos N0.out, HQ0.out, HQ1.out, HQ2.out, HQ3.out, HQ4.out, HQ10.out, hq5])
                  have PP := Lib.hid ST.out.past
                  have HC := Lib.hid hc
                  clear hq5 hc ST
                  refine HC.out.mono ?_
                  rintro e wx ⟨rfl, px⟩
                  refine ⟨rfl, ?_⟩
                  rw [HE.out]
                  exact ⟨rfl, PP.out.trans px⟩
                | ok x =>
                  obtain ⟨l3, r6⟩ := x
                  rw [hq5] at hc
                  have HQ5 := Lib.hid hq5
                  have hl := rest_len (good_key.list n3) hq5 ST.out.len
                  have hb := ((good_key.list n3).bwd _ _ _ hq5).1
                  have HC := Lib.hid hc
                  have HL := Lib.hid hl
                  have HB := Lib.hid hb
                  clear hq5 hc hl hb
                  refine HC.out.mono ?_
                  rintro e w6 ⟨v, rfl, hv, bx, px⟩
                  obtain ⟨A3, rfl, lb⟩ := LB.mk hv
                  have LBB := Lib.hid lb
                  clear hv lb
                  have ST' := Lib.hid (ST.out.call px bx HL.out)
                  clear ST bx px HC HL
                  have ST := ST'
                  clear ST'
                  go_wp2_with ((with_reducible refine at_store 31 30 ?_); refine wpList_store_cell rfl 42 (.tmp 31) (.tmp 30) rfl rfl (w.heap.size + 1) 35 (.slice A3 l3.length l3.length) rfl rfl rfl 44 _ ST.out.k3 (by rw [tyTx.arr]; omega) (by kernel_rfl) ?_; intro v6 ox bx; rw [TxA.set_nulls] at bx; have ST' := Lib.hid (ST.out.set ox bx ⟨(ST.out.tl.only ox ST.out.k3).ins, (ST.out.tl.only ox ST.out.k3).outs, LBB.out.only ox ST.out.k3 (by decide), (ST.out.tl.only ox ST.out.k3).notes⟩); clear ST ox bx; have ST := ST'; clear ST')
                  have hc := count_r r6 ST.out.len g _ ST.out.rb
                  cases hq6 : numR r6 with
                  | error er =>
                    rw [hq6] at hc
                    have HE := Lib.hid (show X = .error er by rw [← HX.out]; simp only [txR, mapR, thenR, manyR, nullR, ancR, if_pos N0.out, HQ0.out, HQ1.out, HQ2.out, HQ3.out, HQ4.out, HQ10.out, HQ5.out, hq6])
                    have PP := Lib.hid ST.out.past
                    have HC := Lib.hid hc
                    clear hq6 hc ST
                    refine HC.out.mono ?_
                    rintro e wx ⟨rfl, px⟩
                    refine ⟨rfl, ?_⟩
                    rw [HE.out]
                    exact ⟨rfl, PP.out.trans px⟩
                  | ok x =>
                    obtain ⟨n4, r7⟩ := x
                    rw [hq6] at hc
                    have HQ6 := Lib.hid hq6
                    have hl := rest_len good_num hq6 ST.out.len
                    have hb := (good_num.bwd _ _ _ hq6).1
                    have HC := Lib.hid hc
                    have HL := Lib.hid hl
                    have HB := Lib.hid hb
                    clear hq6 hc hl hb
                    refine HC.out.mono ?_
                    rintro e w7 ⟨v, rfl, rfl, bx, px⟩
                    have ST' := Lib.hid (ST.out.call px bx HL.out)
                    clear ST bx px HC HL
                    have ST := ST'
                    clear ST'
                    have N4 := Lib.hid HB.out
                    clear HB
                    go_wp2_with fail
                    have hc := listKey_r n4 (by have := N4.out; omega) r7 ST.out.len g _ ST.out.rb
                    cases hq7 : listR keyR n4 r7 with
                    | error er =>
                      rw [hq7] at hc
                      have HE := Lib.hid (show X = .error er by rw [← HX.out]; simp only [txR, mapR, thenR, manyR, nullR, ancR, if_pos N0.out, HQ0.out, HQ1.out, HQ2.out, HQ3.out, HQ4.out, HQ10.out, HQ5.out, HQ6.out, hq7])
                      have PP := Lib.hid ST.out.past
                      have HC := Lib.hid hc
                      clear hq7 hc ST
                      refine HC.out.mono ?_
                      rintro e wx ⟨rfl, px⟩
                      refine ⟨rfl, ?_⟩
                      rw [HE.out]
                      exact ⟨rfl, PP.out.trans px⟩
                    | ok x =>
                      obtain ⟨l4, r8⟩ := x
                      rw [hq7] at hc
                      have HQ7 := Lib.hid hq7
                      have hl := rest_len (good_key.list n4) hq7 ST.out.len
                      have hb := ((good_key.list n4).bwd _ _ _ hq7).1
                      have HC := Lib.hid hc
                      have HL := Lib.hid hl
                      have HB := Lib.hid hb
                      clear hq7 hc hl hb
                      refine HC.out.mono ?_
                      rintro e w8 ⟨v, rfl, hv, bx, px⟩
                      obtain ⟨A4, rfl, lb⟩ := LB.mk hv
                      have LBC := Lib.hid lb
                      clear hv lb
                      have ST' := Lib.hid (ST.out.call px bx HL.out)
                      clear ST bx px HC HL
                      have ST := ST'
                      clear ST'
                      go_wp2_with ((with_reducible refine at_store 37 36 ?_); refine wpList_store_cell rfl 42 (.tmp 37) (.tmp 36) rfl rfl (w.heap.size + 1) 36 (.slice A4 l4.length l4.length) rfl rfl rfl 44 _ ST.out.k3 (by rw [tyTx.arr]; omega) (by kernel_rfl) ?_; intro v8 ox bx; rw [TxA.set_notes] at bx; have ST' := Lib.hid (ST.out.set ox bx ⟨(ST.out.tl.only ox ST.out.k3).ins, (ST.out.tl.only ox ST.out.k3).outs, (ST.out.tl.only ox ST.out.k3).nulls, LBC.out.only ox ST.out.k3 (by decide)⟩); clear ST ox bx; have ST := ST'; clear ST')
                      have hc := i64_r r8 ST.out.len g _ ST.out.rb
                      cases hq8 : i64R r8 with
                      | error er =>
                        rw [hq8] at hc
                        have HE := Lib.hid (show X = .error er by rw [← HX.out]; simp only [txR, mapR, thenR, manyR, nullR, ancR, if_pos N0.out, HQ0.out, HQ1.out, HQ2.out, HQ3.out, HQ4.out, HQ10.out, HQ5.out, HQ6.out, HQ7.out, hq8])
                        have PP := Lib.hid ST.out.past
                        have HC := Lib.hid hc
                        clear hq8 hc ST
                        refine HC.out.mono ?_
                        rintro e wx ⟨rfl, px⟩
                        refine ⟨rfl, ?_⟩
                        rw [HE.out]
                        exact ⟨rfl, PP.out.trans px⟩
                      | ok x =>
                        obtain ⟨zb, r9⟩ := x
                        rw [hq8] at hc
                        have HQ8 := Lib.hid hq8
                        have hl := rest_len good_i64 hq8 ST.out.len
                        have hb := (good_i64.bwd _ _ _ hq8).1
                        have HC := Lib.hid hc
                        have HL := Lib.hid hl
                        have HB := Lib.hid hb
                        clear hq8 hc hl hb
                        refine HC.out.mono ?_
                        rintro e w9 ⟨v, rfl, hv, bx, px⟩
                        have hv' : v = .int .i64 zb.1 := hv
                        subst hv'
                        clear hv
                        have ST' := Lib.hid (ST.out.call px bx HL.out)
                        clear ST bx px HC HL
                        have ST := ST'
                        clear ST'
                        have HE := Lib.hid (show X = .ok (⟨z0, l1, l2, zeroKey, l3, l4, zb⟩, r9) by rw [← HX.out]; simp only [txR, mapR, thenR, manyR, nullR, ancR, if_pos N0.out, HQ0.out, HQ1.out, HQ2.out, HQ3.out, HQ4.out, HQ10.out, HQ5.out, HQ6.out, HQ7.out, HQ8.out]; rfl)
                        go_wp2_with (first
                          | ((with_reducible refine at_store 40 39 ?_); refine wpList_store_cell rfl 2 (.tmp 40) (.tmp 39) rfl rfl (w.heap.size + 1) 37 (.int .i64 zb.1) rfl rfl rfl 44 _ ST.out.k3 (by rw [tyTx.arr]; omega) (by kernel_rfl) ?_; intro v9 ox bx; rw [TxA.set_bal] at bx; have ST' := Lib.hid (ST.out.set ox bx ⟨(ST.out.tl.only ox ST.out.k3).ins, (ST.out.tl.only ox ST.out.k3).outs, (ST.out.tl.only ox ST.out.k3).nulls, (ST.out.tl.only ox ST.out.k3).notes⟩); clear ST ox bx; have ST := ST'; clear ST')
                          | ((with_reducible refine at_load 3 ?_); refine tyTx.wpList_load rfl (.tmp 3) rfl (w.heap.size + 1) 0 rfl _ (by simpa using RowC.of_blk ST.out.k3) ?_)
                          | ((with_reducible refine at_store 2 41 ?_); obtain ⟨cz, hcz, kcz⟩ := ST.out.k2; refine tyTx.wpList_store rfl (.tmp 2) (.tmp 41) rfl rfl w.heap.size _ rfl rfl 44 _ kcz hcz ?_; intro v10 ox bx))
                        have hrb := ox.blk ST.out.rb (by have := ST.out.rb.ne_ kcz (by decide); simpa using this)
                        have htl := ST.out.tl.only ox kcz
                        have hpp := ST.out.past.new ox ST.out.new2
                        refine bodyPost_ret (results_cell_row rfl _ _ w.heap.size 44 _ (0, 0) _ rfl bx Try.underlying44 rfl (by rw [tyTx.arr]; kernel_rfl)) rfl ?_
                        rw [HE.out]
                        exact ⟨_, rfl, ⟨_, rfl, rfl, htl⟩, hrb, hpp⟩
              · have N0 := Lib.hid h0
                have hd : decide (0 < n3) = true := by simp only [decide_eq_true_iff]; omega
                clear h0
                go_wp2_with fail
                have hc := key_r r11 ST.out.len g _ ST.out.rb
                cases hq11 : keyR r11 with
                | error er =>
                  rw [hq11] at hc
                  have HE := Lib.hid (show X = .error er by rw [← HX.out]; simp only [txR, mapR, thenR, manyR, nullR, ancR, if_neg N0.out, HQ0.out, HQ1.out, HQ2.out, HQ3.out, HQ4.out, HQ10.out, hq11])
                  have PP := Lib.hid ST.out.past
                  have HC := Lib.hid hc
                  clear hq11 hc ST
                  refine HC.out.mono ?_
                  rintro e wx ⟨rfl, px⟩
                  refine ⟨rfl, ?_⟩
                  rw [HE.out]
                  exact ⟨rfl, PP.out.trans px⟩
                | ok x =>
                  obtain ⟨k3, r12⟩ := x
                  rw [hq11] at hc
                  have HQ11 := Lib.hid hq11
                  have hl := rest_len good_key hq11 ST.out.len
                  have hb := (good_key.bwd _ _ _ hq11).1
                  have HC := Lib.hid hc
                  have HL := Lib.hid hl
                  have HB := Lib.hid hb
                  clear hq11 hc hl hb
                  refine HC.out.mono ?_
                  rintro e w12 ⟨v, rfl, hv, bx, px⟩
                  have hv' : v = .agg (encK k3).toArray := hv
                  subst hv'
                  clear hv
                  have ST' := Lib.hid (ST.out.call px bx HL.out)
                  clear ST bx px HC HL
                  have ST := ST'
                  clear ST'
                  go_wp2_with ((with_reducible refine at_store 26 25 ?_); refine tyKc.wpList_storeAt rfl (.tmp 26) (.tmp 25) rfl rfl (w.heap.size + 1) 3 k3 rfl rfl 44 _ ST.out.k3 (by rw [TxA.len]; omega) ?_; intro v12 ox bx; rw [TxA.set_anchor] at bx; have ST' := Lib.hid (ST.out.set ox bx ⟨(ST.out.tl.only ox ST.out.k3).ins, (ST.out.tl.only ox ST.out.k3).outs, (ST.out.tl.only ox ST.out.k3).nulls, (ST.out.tl.only ox ST.out.k3).notes⟩); clear ST ox bx; have ST := ST'; clear ST')
                  have hc := listKey_r n3 (by have := N3.out; omega) r12 ST.out.len g _ ST.out.rb
                  cases hq5 : listR keyR n3 r12 with
                  | error er =>
                    rw [hq5] at hc
                    have HE := Lib.hid (show X = .error er by rw [← HX.out]; simp only [txR, mapR, thenR, manyR, nullR, ancR, if_neg N0.out, HQ0.out, HQ1.out, HQ2.out, HQ3.out, HQ4.out, HQ10.out, HQ11.out, hq5])
                    have PP := Lib.hid ST.out.past
                    have HC := Lib.hid hc
                    clear hq5 hc ST
                    refine HC.out.mono ?_
                    rintro e wx ⟨rfl, px⟩
                    refine ⟨rfl, ?_⟩
                    rw [HE.out]
                    exact ⟨rfl, PP.out.trans px⟩
                  | ok x =>
                    obtain ⟨l3, r6⟩ := x
                    rw [hq5] at hc
                    have HQ5 := Lib.hid hq5
                    have hl := rest_len (good_key.list n3) hq5 ST.out.len
                    have hb := ((good_key.list n3).bwd _ _ _ hq5).1
                    have HC := Lib.hid hc
                    have HL := Lib.hid hl
                    have HB := Lib.hid hb
                    clear hq5 hc hl hb
                    refine HC.out.mono ?_
                    rintro e w6 ⟨v, rfl, hv, bx, px⟩
                    obtain ⟨A3, rfl, lb⟩ := LB.mk hv
                    have LBB := Lib.hid lb
                    clear hv lb
                    have ST' := Lib.hid (ST.out.call px bx HL.out)
                    clear ST bx px HC HL
                    have ST := ST'
                    clear ST'
                    go_wp2_with ((with_reducible refine at_store 31 30 ?_); refine wpList_store_cell rfl 42 (.tmp 31) (.tmp 30) rfl rfl (w.heap.size + 1) 35 (.slice A3 l3.length l3.length) rfl rfl rfl 44 _ ST.out.k3 (by rw [tyTx.arr]; omega) (by kernel_rfl) ?_; intro v6 ox bx; rw [TxA.set_nulls] at bx; have ST' := Lib.hid (ST.out.set ox bx ⟨(ST.out.tl.only ox ST.out.k3).ins, (ST.out.tl.only ox ST.out.k3).outs, LBB.out.only ox ST.out.k3 (by decide), (ST.out.tl.only ox ST.out.k3).notes⟩); clear ST ox bx; have ST := ST'; clear ST')
                    have hc := count_r r6 ST.out.len g _ ST.out.rb
                    cases hq6 : numR r6 with
                    | error er =>
                      rw [hq6] at hc
                      have HE := Lib.hid (show X = .error er by rw [← HX.out]; simp only [txR, mapR, thenR, manyR, nullR, ancR, if_neg N0.out, HQ0.out, HQ1.out, HQ2.out, HQ3.out, HQ4.out, HQ10.out, HQ11.out, HQ5.out, hq6])
                      have PP := Lib.hid ST.out.past
                      have HC := Lib.hid hc
                      clear hq6 hc ST
                      refine HC.out.mono ?_
                      rintro e wx ⟨rfl, px⟩
                      refine ⟨rfl, ?_⟩
                      rw [HE.out]
                      exact ⟨rfl, PP.out.trans px⟩
                    | ok x =>
                      obtain ⟨n4, r7⟩ := x
                      rw [hq6] at hc
                      have HQ6 := Lib.hid hq6
                      have hl := rest_len good_num hq6 ST.out.len
                      have hb := (good_num.bwd _ _ _ hq6).1
                      have HC := Lib.hid hc
                      have HL := Lib.hid hl
                      have HB := Lib.hid hb
                      clear hq6 hc hl hb
                      refine HC.out.mono ?_
                      rintro e w7 ⟨v, rfl, rfl, bx, px⟩
                      have ST' := Lib.hid (ST.out.call px bx HL.out)
                      clear ST bx px HC HL
                      have ST := ST'
                      clear ST'
                      have N4 := Lib.hid HB.out
                      clear HB
                      go_wp2_with fail
                      have hc := listKey_r n4 (by have := N4.out; omega) r7 ST.out.len g _ ST.out.rb
                      cases hq7 : listR keyR n4 r7 with
                      | error er =>
                        rw [hq7] at hc
                        have HE := Lib.hid (show X = .error er by rw [← HX.out]; simp only [txR, mapR, thenR, manyR, nullR, ancR, if_neg N0.out, HQ0.out, HQ1.out, HQ2.out, HQ3.out, HQ4.out, HQ10.out, HQ11.out, HQ5.out, HQ6.out, hq7])
                        have PP := Lib.hid ST.out.past
                        have HC := Lib.hid hc
                        clear hq7 hc ST
                        refine HC.out.mono ?_
                        rintro e wx ⟨rfl, px⟩
                        refine ⟨rfl, ?_⟩
                        rw [HE.out]
                        exact ⟨rfl, PP.out.trans px⟩
                      | ok x =>
                        obtain ⟨l4, r8⟩ := x
                        rw [hq7] at hc
                        have HQ7 := Lib.hid hq7
                        have hl := rest_len (good_key.list n4) hq7 ST.out.len
                        have hb := ((good_key.list n4).bwd _ _ _ hq7).1
                        have HC := Lib.hid hc
                        have HL := Lib.hid hl
                        have HB := Lib.hid hb
                        clear hq7 hc hl hb
                        refine HC.out.mono ?_
                        rintro e w8 ⟨v, rfl, hv, bx, px⟩
                        obtain ⟨A4, rfl, lb⟩ := LB.mk hv
                        have LBC := Lib.hid lb
                        clear hv lb
                        have ST' := Lib.hid (ST.out.call px bx HL.out)
                        clear ST bx px HC HL
                        have ST := ST'
                        clear ST'
                        go_wp2_with ((with_reducible refine at_store 37 36 ?_); refine wpList_store_cell rfl 42 (.tmp 37) (.tmp 36) rfl rfl (w.heap.size + 1) 36 (.slice A4 l4.length l4.length) rfl rfl rfl 44 _ ST.out.k3 (by rw [tyTx.arr]; omega) (by kernel_rfl) ?_; intro v8 ox bx; rw [TxA.set_notes] at bx; have ST' := Lib.hid (ST.out.set ox bx ⟨(ST.out.tl.only ox ST.out.k3).ins, (ST.out.tl.only ox ST.out.k3).outs, (ST.out.tl.only ox ST.out.k3).nulls, LBC.out.only ox ST.out.k3 (by decide)⟩); clear ST ox bx; have ST := ST'; clear ST')
                        have hc := i64_r r8 ST.out.len g _ ST.out.rb
                        cases hq8 : i64R r8 with
                        | error er =>
                          rw [hq8] at hc
                          have HE := Lib.hid (show X = .error er by rw [← HX.out]; simp only [txR, mapR, thenR, manyR, nullR, ancR, if_neg N0.out, HQ0.out, HQ1.out, HQ2.out, HQ3.out, HQ4.out, HQ10.out, HQ11.out, HQ5.out, HQ6.out, HQ7.out, hq8])
                          have PP := Lib.hid ST.out.past
                          have HC := Lib.hid hc
                          clear hq8 hc ST
                          refine HC.out.mono ?_
                          rintro e wx ⟨rfl, px⟩
                          refine ⟨rfl, ?_⟩
                          rw [HE.out]
                          exact ⟨rfl, PP.out.trans px⟩
                        | ok x =>
                          obtain ⟨zb, r9⟩ := x
                          rw [hq8] at hc
                          have HQ8 := Lib.hid hq8
                          have hl := rest_len good_i64 hq8 ST.out.len
                          have hb := (good_i64.bwd _ _ _ hq8).1
                          have HC := Lib.hid hc
                          have HL := Lib.hid hl
                          have HB := Lib.hid hb
                          clear hq8 hc hl hb
                          refine HC.out.mono ?_
                          rintro e w9 ⟨v, rfl, hv, bx, px⟩
                          have hv' : v = .int .i64 zb.1 := hv
                          subst hv'
                          clear hv
                          have ST' := Lib.hid (ST.out.call px bx HL.out)
                          clear ST bx px HC HL
                          have ST := ST'
                          clear ST'
                          have HE := Lib.hid (show X = .ok (⟨z0, l1, l2, k3, l3, l4, zb⟩, r9) by rw [← HX.out]; simp only [txR, mapR, thenR, manyR, nullR, ancR, if_neg N0.out, HQ0.out, HQ1.out, HQ2.out, HQ3.out, HQ4.out, HQ10.out, HQ11.out, HQ5.out, HQ6.out, HQ7.out, HQ8.out]; rfl)
                          go_wp2_with (first
                            | ((with_reducible refine at_store 40 39 ?_); refine wpList_store_cell rfl 2 (.tmp 40) (.tmp 39) rfl rfl (w.heap.size + 1) 37 (.int .i64 zb.1) rfl rfl rfl 44 _ ST.out.k3 (by rw [tyTx.arr]; omega) (by kernel_rfl) ?_; intro v9 ox bx; rw [TxA.set_bal] at bx; have ST' := Lib.hid (ST.out.set ox bx ⟨(ST.out.tl.only ox ST.out.k3).ins, (ST.out.tl.only ox ST.out.k3).outs, (ST.out.tl.only ox ST.out.k3).nulls, (ST.out.tl.only ox ST.out.k3).notes⟩); clear ST ox bx; have ST := ST'; clear ST')
                            | ((with_reducible refine at_load 3 ?_); refine tyTx.wpList_load rfl (.tmp 3) rfl (w.heap.size + 1) 0 rfl _ (by simpa using RowC.of_blk ST.out.k3) ?_)
                            | ((with_reducible refine at_store 2 41 ?_); obtain ⟨cz, hcz, kcz⟩ := ST.out.k2; refine tyTx.wpList_store rfl (.tmp 2) (.tmp 41) rfl rfl w.heap.size _ rfl rfl 44 _ kcz hcz ?_; intro v10 ox bx))
                          have hrb := ox.blk ST.out.rb (by have := ST.out.rb.ne_ kcz (by decide); simpa using this)
                          have htl := ST.out.tl.only ox kcz
                          have hpp := ST.out.past.new ox ST.out.new2
                          refine bodyPost_ret (results_cell_row rfl _ _ w.heap.size 44 _ (0, 0) _ rfl bx Try.underlying44 rfl (by rw [tyTx.arr]; kernel_rfl)) rfl ?_
                          rw [HE.out]
                          exact ⟨_, rfl, ⟨_, rfl, rfl, htl⟩, hrb, hpp⟩
end Go.Proofs.Ythpnmmilioonhaa
