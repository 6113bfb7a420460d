/- The reference's Sum. -/
import Derived.Test.YtgcopgnkfokphaaDoorRefB
import Derived.Test.YtgcopgnkfokphaaDoorRefP
import Derived.Test.YtgcopgnkfokphaaDoorShaF
namespace Go.Proofs.YtgcopgnkfokphaaDoor
open Go.RowKit
theorem hU : uarr 8 hF = (hList.map fun x => Value.int .u32 (wv x)).toArray := by
  unfold uarr
  congr 1
set_option maxRecDepth 100000 in
set_option maxHeartbeats 4000000 in
theorem refSum_any (s : ByteArray) (hs : s.size ≤ 1000000) (w : World) :
    Calls Tryd.prog 37 #[.string s] w fun e w' => e = .returned (.agg (bytesA (sumL s.data.toList))) ∧ Below w.heap.size w w' := by
  go_enter Tryd.func37, Tryd.ntmps37
  go_wp2_with ((with_reducible refine at_store 3 8 ?_); refine wpList_store_arr rfl 78 (.tmp 3) (.tmp 8) rfl rfl (w.heap.size + 1) (uarr 8 hF) rfl (by rw [hU]; kernel_rfl) 78 _ (blk_new (g := w.heap.size + 1) _ _ (by simp)) (by rw [uarr_size]; kernel_rfl) (by rw [uarr_size]; simp) (uarr_one _ _) ?_; intro w2 o2 b2)
  have B2 : Below w.heap.size w w2 := (((Below.refl _ _).alloc (Nat.le_refl _) _).alloc (by simp) _).trans (o2.below (by simp))
  have KH := Lib.hid b2
  have KR := Lib.hid (o2.blk ((Blk.new w 26 (bytesA (List.replicate 32 0))).alloc _) (by simp))
  clear o2 b2
  refine (refPad_any s hs _).mono ?_
  rintro e w3 ⟨rfl, b3⟩
  have hl : s.data.toList.length = s.size := Array.length_toList
  obtain ⟨P, hP⟩ : ∃ P, padL s.data.toList = P := ⟨_, rfl⟩
  rw [hP]
  obtain ⟨p, hp⟩ : ∃ p : ByteArray, (⟨P.toArray⟩ : ByteArray) = p := ⟨_, rfl⟩
  rw [hp]
  have hpl : p.data.toList = P := by rw [← hp]
  have hps : p.size = P.length := by rw [← hp]; simp [ByteArray.size]
  have hpm : P.length % 64 = 0 := by rw [← hP]; exact padL_mod s.data.toList
  have hpb : p.size ≤ 2000000 := by
    rw [hps, ← hP]; have := padTo_len s.data.toList 8; have := padZ_lt s.data.toList.length; unfold padL; omega
  obtain ⟨m, hm⟩ : ∃ m, p.size = 64 * m := ⟨p.size / 64, by omega⟩
  have HP := Lib.hid hP
  have HPL := Lib.hid hpl
  have HPM := Lib.hid hm
  have HPS := Lib.hid hps
  have hmb : m ≤ 40000 := by omega
  have B3 := B2.trans (b3.mono B2.size)
  replace KH := Lib.hid (below_blk b3 KH.out KH.out.lt)
  replace KR := Lib.hid (below_blk b3 KR.out KR.out.lt)
  have HB := Lib.hid B3
  clear hP hp hpl hps hpm hm b3 B2 B3 hl hpb
  go_wp2_with fail
  go_loopw [5] (fun i wr => ∃ k : Nat, k ≤ m ∧ i = .int .i64 ((64 * k : Nat) : Int) ∧ Hid (Blk wr (w.heap.size + 1) 78 (uarr 8 (hashN P k)) ∧ Blk wr w.heap.size 26 (bytesA (List.replicate 32 0)) ∧ Below w.heap.size w wr))
    (fun i _ => (64 * m + 64) - (intOf i).toNat)
  case atStart => exact ⟨0, by omega, rfl, Lib.hid ⟨KH.out, KR.out, HB.out⟩⟩
  case round =>
    clear KH KR HB
    obtain ⟨k, hk, rfl, HK⟩ := hrel
    obtain ⟨q, hq⟩ : ∃ q : Nat, 64 * k = q := ⟨_, rfl⟩
    rw [hq]
    have HQ := Lib.hid hq
    have hq9 : q ≤ 3000000 := by omega
    by_cases hlt : k < m
    · have hc : ∀ j, j < 8 → wr.cell? ⟨w.heap.size + 1, j, none⟩ = some (.int .u32 (wv (hashN P k j))) := fun j hj => by rw [HK.out.1.cell, uarr_get _ _ _ hj]
      have c0 := hc 0 (by omega)
      have c1 := hc 1 (by omega)
      have c2 := hc 2 (by omega)
      have c3 := hc 3 (by omega)
      have c4 := hc 4 (by omega)
      have c5 := hc 5 (by omega)
      have c6 := hc 6 (by omega)
      have c7 := hc 7 (by omega)
      clear hc
      have hle : (q : Int) + 64 ≤ p.size := by have := HPM.out; omega
      have i2 : IntKind.i64.wrap ((q : Int) + 64) = (q : Int) + 64 := IntWalk.i64_in _ (by omega)
      have hsl : ∀ W, (Instr.slice 9 (.string p) (some (.int .i64 (q : Int))) (some (.int .i64 ((q : Int) + 64))) none).run Tryd.prog W = .ok (.string (p.extract q (q + 64))) W := fun W => by
        have e2 : ((q : Int) + 64).toNat = q + 64 := by omega
        rw [run_slice_string_if W 9 p .i64 .i64 _ _ Tryd.underlying9, if_pos (by omega), e2, if_pos (by omega)]
        rfl
      clear hq
      go_wp2_with fail
      refine wp_region_still_tail 6 (by kernel_rfl) (by kernel_rfl) ?_
      simp only [List.take_succ_cons, List.take_zero, List.drop_succ_cons, List.drop_zero]
      repeat still_step
      refine wpStill_nil ?_
      change wpList _ _ _ _ _ wr.drew
      rw [← uarr8 (hashN P k)]
      clear c0 c1 c2 c3 c4 c5 c6 c7 hsl i2
      go_wp2_with fail
      have hbs : (p.extract q (q + 64)).size = 64 := by rw [ByteArray.size_extract]; omega
      refine (refBlock_any _ _ hbs _).mono ?_
      rintro e w5 ⟨rfl, b5⟩
      have hbl : (p.extract q (q + 64)).data.toList = blockL P k := by
        rw [extract_list, HPL.out, show q + 64 - q = 64 by omega, ← HQ.out]; rfl
      rw [hbl, show compressF kF (wordL (blockL P k)) (hashN P k) = hashN P (k + 1) from rfl]
      have B5 : Below w.heap.size w w5 := HK.out.2.2.drew.trans (b5.mono (by have := HK.out.2.2.size; simpa using this))
      have J1 := Lib.hid (below_blk b5 HK.out.1.drew HK.out.1.lt)
      have J2 := Lib.hid (below_blk b5 HK.out.2.1.drew HK.out.2.1.lt)
      clear b5 hbl hbs
      go_wp2_with ((with_reducible refine at_store 3 24 ?_); refine wpList_store_arr rfl 78 (.tmp 3) (.tmp 24) rfl rfl (w.heap.size + 1) (uarr 8 (hashN P (k + 1))) rfl rfl 78 _ J1.out (by rw [uarr_size]; kernel_rfl) (by rw [uarr_size, uarr_size]) (uarr_one _ _) ?_; intro w6 o6 b6)
      go_roundw
      case rel =>
        have Z := Lib.hid (And.intro b6 (And.intro (o6.blk J2.out (by simp)) (B5.trans (o6.below (by simp)))))
        exact ⟨k + 1, by omega, by rw [← HQ.out]; go_num, Z⟩
      case measure => have := HQ.out; simp [intOf]; omega
    · have hno : ¬ ((q : Int) + 64 ≤ p.size) := by have := HPM.out; omega
      have hkm : k = P.length / 64 := by have := HPM.out; have := HPS.out; omega
      have HSL := Lib.hid (show hashBytes (hashN P k) = sumL s.data.toList by unfold sumL; rw [HP.out, hkm])
      obtain ⟨H, hH⟩ : ∃ H, hashN P k = H := ⟨_, rfl⟩
      rw [hH] at HK HSL
      clear hkm hH hlt hk hq
      have KH := Lib.hid HK.out.1
      have KR := Lib.hid HK.out.2.1
      have HB := Lib.hid HK.out.2.2
      clear HK
      go_wp2_with ((with_reducible refine at_store 6 25 ?_); refine wpList_store_arr rfl 26 (.tmp 6) (.tmp 25) rfl rfl wr.heap.size (bytesA (List.replicate 32 0)) rfl rfl 26 _ (Blk.new wr _ (bytesA (List.replicate 32 0))) (by rw [bytesA_size, List.length_replicate]; kernel_rfl) rfl (bytesA_one _) ?_; intro w7 o7 b7)
      have lr := KR.out.lt
      have lh := KH.out.lt
      replace KH := Lib.hid (o7.blk (KH.out.alloc _) (by simp; omega))
      replace KR := Lib.hid (o7.blk (KR.out.alloc _) (by simp; omega))
      have KO := Lib.hid b7
      have HB7 := Lib.hid ((HB.out.alloc HB.out.size _).trans (o7.below (by simp; exact HB.out.size)))
      obtain ⟨go, hgo⟩ : ∃ g, wr.heap.size = g := ⟨_, rfl⟩
      rw [hgo] at KO lr lh
      rw [hgo]
      clear o7 b7 hgo HB hno
      go_loopw [7] (fun i wq => ∃ j : Nat, j ≤ 32 ∧ i = .int .i64 j ∧ Hid (Blk wq go 26 (bytesA (tab 32 fun i => if i < j then byteOf (H (i / 4)) (i % 4) else 0)) ∧ Blk wq (w.heap.size + 1) 78 (uarr 8 H) ∧ Blk wq w.heap.size 26 (bytesA (List.replicate 32 0)) ∧ Below w.heap.size w wq)) (fun i _ => 32 - (intOf i).toNat)
      case atStart => exact ⟨0, by omega, rfl, Lib.hid ⟨(show bytesA (tab 32 fun i => if i < 0 then byteOf (H (i / 4)) (i % 4) else 0) = bytesA (List.replicate 32 0) by simp [tab]; rfl) ▸ KO.out, KH.out, KR.out, HB7.out⟩⟩
      case round =>
        clear KO KH KR HB7
        obtain ⟨j, hj, rfl, HK⟩ := hrel
        by_cases hl : j < 32
        · have hin : j < (tab 32 fun i => if i < j then byteOf (H (i / 4)) (i % 4) else 0).length := by rw [tab_len]; omega
          obtain ⟨old, hc⟩ : ∃ old, wr.cell? ⟨go, j, none⟩ = some old := ⟨_, (HK.out.1.cell _).trans (bytesA_get _ _ hin)⟩
          have hf : wr.frozen? ⟨go, j, none⟩ = false := HK.out.1.frozen _
          have ch : wr.cell? ⟨w.heap.size + 1, j / 4, none⟩ = some (.int .u32 (wv (H (j / 4)))) := by rw [HK.out.2.1.cell, uarr_get _ _ _ (by omega)]
          have HK2 := Lib.hid HK.out
          clear HK hin
          obtain ⟨r, hr⟩ : ∃ r, j % 4 = r := ⟨_, rfl⟩
          have hr4 : r < 4 := by omega
          have e1 : (j : Int) % 4 = r := by omega
          obtain ⟨d, hd⟩ : ∃ d, j / 4 = d := ⟨_, rfl⟩
          have hd8 : d < 8 := by omega
          have e2 : (j : Int) / 4 = d := by omega
          rw [hd] at ch
          have HR4 := Lib.hid hr
          have HD := Lib.hid hd
          clear hr hd
          have i0 : (0 : Int) ≤ 24 - 8 * (r : Int) := by omega
          have i1 : 24 - 8 * (r : Int) ≤ 32 := by omega
          have i2 : (0 : Int) ≤ d := by omega
          have i3 : (d : Int) < 8 := by omega
          have i4 : (0 : Int) ≤ j := by omega
          have i5 : (j : Int) < 32 := by omega
          go_wp2
          go_roundw
          case rel =>
            have hh := HK2.out.1.set_ j (.int .u8 ((byteOf (H d) r).toNat : Int))
            rw [bytesA_set, tab_set 32 _ (fun i => if i < j + 1 then byteOf (H (i / 4)) (i % 4) else 0) _ _ (fun i hi => by
              by_cases e : i = j
              · subst e
                rw [if_pos (by omega), if_pos rfl, HD.out, HR4.out]
              · rw [if_neg e]
                by_cases l : i < j
                · rw [if_pos l, if_pos (by omega)]
                · rw [if_neg l, if_neg (by omega)])] at hh
            rw [u32_shr, byteOf_eq]
            exact ⟨j + 1, by omega, by go_num, Lib.hid ⟨hh, HK2.out.2.1.far (by simp; omega) _, HK2.out.2.2.1.far (by simp; omega) _, HK2.out.2.2.2.setCell (by simp; omega) _⟩⟩
          case measure => simp [intOf]; omega
        · have h1' : Blk wr go 26 (bytesA (hashBytes H)) := by
            unfold hashBytes
            rw [tab_congr 32 (fun j => byteOf (H (j / 4)) (j % 4)) (fun i => if i < j then byteOf (H (i / 4)) (i % 4) else 0) (fun i hi => (if_pos (by omega)).symm)]
            exact HK.out.1
          rw [HSL.out] at h1'
          have H1 := Lib.hid h1'
          have H2 := Lib.hid HK.out.2.2.1
          have HB := Lib.hid HK.out.2.2.2
          have hlen : (sumL s.data.toList).length = 32 := tab_len _ _
          have HLN := Lib.hid hlen
          clear HK h1' hlen
          go_wp2_with (first
            | ((with_reducible refine at_load 6 ?_); refine wpList_load_row rfl 26 (.tmp 6) rfl go rfl 26 (bytesA (sumL s.data.toList)) (0, 0) _ H1.out Tryd.underlying26 rfl (by rw [bytesA_size, HLN.out]; kernel_rfl) ?_)
            | ((with_reducible refine at_store 2 42 ?_); refine wpList_store_arr rfl 26 (.tmp 2) (.tmp 42) rfl rfl w.heap.size (bytesA (sumL s.data.toList)) rfl rfl 26 _ H2.out (by rw [bytesA_size, HLN.out]; kernel_rfl) (by rw [bytesA_size, bytesA_size, HLN.out]; simp) (bytesA_one _) ?_; intro w8 o8 b8))
          exact bodyPost_ret (results_cell_row rfl _ _ w.heap.size 26 _ (0, 0) _ rfl b8 Tryd.underlying26 rfl (by rw [bytesA_size, HLN.out]; kernel_rfl)) rfl ⟨rfl, HB.out.trans (o8.below (by simp))⟩
end Go.Proofs.YtgcopgnkfokphaaDoor
