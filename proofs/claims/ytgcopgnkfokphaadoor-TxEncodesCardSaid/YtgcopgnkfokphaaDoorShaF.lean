/- sha.Sum, Double and Pair: the hash by its contracts' pieces. -/
import Derived.Test.YtgcopgnkfokphaaDoorSumP
import Derived.Test.YtgcopgnkfokphaaDoorShaC
import Derived.Test.YtgcopgnkfokphaaDoorShaD
import Derived.Test.YtgcopgnkfokphaaDoorShaE
namespace Go.Proofs.YtgcopgnkfokphaaDoor
open Go.RowKit
/-- the tables of roots lie where start-up laid them -/
def Roots (w : World) : Prop := (∀ i, i < 8 → w.cell? ⟨0, i, none⟩ = some (.int .u32 (wv (hF i)))) ∧ (∀ i, i < 64 → w.cell? ⟨1, i, none⟩ = some (.int .u32 (wv (kF i))))
theorem Roots.below {B : Nat} {w w' : World} (h : Roots w) (hb : Below B w w') (h0 : 0 < B) (h1 : 1 < B) : Roots w' :=
  ⟨fun i hi => (hb.cell (by simpa using h0)).trans (h.1 i hi), fun i hi => (hb.cell (by simpa using h1)).trans (h.2 i hi)⟩
theorem Roots.lt0 {w : World} (h : Roots w) : 0 < w.heap.size := World.block_lt_of_cell? w _ (h.1 0 (by omega))
theorem Roots.lt1 {w : World} (h : Roots w) : 1 < w.heap.size := World.block_lt_of_cell? w _ (h.2 0 (by omega))
theorem uarr8 (f : Nat → BitVec 32) : uarr 8 f = #[.int .u32 (wv (f 0)), .int .u32 (wv (f 1)), .int .u32 (wv (f 2)), .int .u32 (wv (f 3)), .int .u32 (wv (f 4)), .int .u32 (wv (f 5)), .int .u32 (wv (f 6)), .int .u32 (wv (f 7))] := rfl
set_option maxRecDepth 20000 in
set_option maxHeartbeats 1000000 in
theorem sum_any (s : ByteArray) (hs : s.size ≤ 1000000) (w : World) (hR : Roots w) :
    Calls Tryd.prog 43 #[.string s] w fun e w' => e = .returned (.agg (bytesA (sumL s.data.toList))) ∧ Below w.heap.size w w' := by
  have r0 := hR.1 0 (by omega)
  have r1 := hR.1 1 (by omega)
  have r2 := hR.1 2 (by omega)
  have r3 := hR.1 3 (by omega)
  have r4 := hR.1 4 (by omega)
  have r5 := hR.1 5 (by omega)
  have r6 := hR.1 6 (by omega)
  have r7 := hR.1 7 (by omega)
  have HR := Lib.hid hR
  have l0 := hR.lt0
  have l1 := hR.lt1
  clear hR
  go_enter Tryd.func43, Tryd.ntmps43
  go_wp2_with fail
  refine (pad_any s hs _).mono ?_
  rintro e w1 ⟨rfl, b1⟩
  clear r0 r1 r2 r3 r4 r5 r6 r7
  have hl : s.data.toList.length = s.size := Array.length_toList
  obtain ⟨p, hp⟩ : ∃ p : ByteArray, (⟨(padL s.data.toList).toArray⟩ : ByteArray) = p := ⟨_, rfl⟩
  have hpl : p.data.toList = padL s.data.toList := by rw [← hp]
  have hps : p.size = (padL s.data.toList).length := by rw [← hp]; simp [ByteArray.size]
  have hpm := padL_mod s.data.toList
  have hpb : p.size ≤ 2000000 := by
    rw [hps]; have := padTo_len s.data.toList 8; have := padZ_lt s.data.toList.length; unfold padL; omega
  obtain ⟨m, hm⟩ : ∃ m, p.size = 64 * m := ⟨p.size / 64, by omega⟩
  rw [hp]
  have HP := Lib.hid hp
  have HPL := Lib.hid hpl
  have HPM := Lib.hid hm
  have HPS := Lib.hid hps
  have hq : (p.size : Int) / 64 = m := by omega
  have hmb : m ≤ 40000 := by omega
  have B1 : Below w.heap.size w w1 := (((Below.refl _ _).alloc (Nat.le_refl _) _).alloc (by simp) _).trans (b1.mono (by simp; omega))
  have K0 := Lib.hid (below_blk b1 ((Blk.new w 26 (bytesA (List.replicate 32 0))).alloc _) (by simp; omega))
  have K1 := Lib.hid (below_blk b1 (blk_new (w := w.alloc (.cells (bytesA (List.replicate 32 0)) 26)) 78 (uarr 8 hF) (g := w.heap.size + 1) (by simp)) (by simp))
  clear hp hpl hps hpm hm b1 hpb
  go_wp2_with fail
  clear hq
  go_loopw [12] (fun i wr => ∃ k : Nat, k ≤ m ∧ i = .int .i64 k ∧ Blk wr (w.heap.size + 1) 78 (uarr 8 (hashN (padL s.data.toList) k)) ∧ Blk wr w.heap.size 26 (bytesA (List.replicate 32 0)) ∧ Below w.heap.size w wr)
    (fun i _ => m - (intOf i).toNat)
  case atStart => exact ⟨0, by omega, rfl, K1.out, K0.out, B1⟩
  case round =>
    clear K0 K1 B1
    rename World => wr
    obtain ⟨k, hk, rfl, h1, h2, hb⟩ := hrel
    have H1 := Lib.hid h1
    have H2 := Lib.hid h2
    have hc : ∀ j, j < 8 → wr.cell? ⟨w.heap.size + 1, j, none⟩ = some (.int .u32 (wv (hashN (padL s.data.toList) k j))) := fun j hj => by rw [h1.cell, uarr_get _ _ _ hj]
    clear h1 h2
    by_cases hlt : k < m
    · have c0 := hc 0 (by omega)
      have c1 := hc 1 (by omega)
      have c2 := hc 2 (by omega)
      have c3 := hc 3 (by omega)
      have c4 := hc 4 (by omega)
      have c5 := hc 5 (by omega)
      have c6 := hc 6 (by omega)
      have c7 := hc 7 (by omega)
      clear hc
      have i0 : (k : Int) * 64 + 64 ≤ 64 * m := by omega
      have i1 : IntKind.i64.wrap ((k : Int) * 64) = (k : Int) * 64 := IntWalk.i64_in _ (by omega)
      have i2 : IntKind.i64.wrap ((k : Int) + 1) = (k : Int) + 1 := IntWalk.i64_in _ (by omega)
      have i3 : IntKind.i64.wrap (((k : Int) + 1) * 64) = ((k : Int) + 1) * 64 := IntWalk.i64_in _ (by omega)
      have hsl : ∀ W, (Instr.slice 9 (.string p) (some (.int .i64 ((k : Int) * 64))) (some (.int .i64 (((k : Int) + 1) * 64))) none).run Tryd.prog W = .ok (.string (p.extract (64 * k) (64 * k + 64))) W := fun W => by
        have hh := HPM.out
        have e1 : ((k : Int) * 64).toNat = 64 * k := by omega
        have e2 : (((k : Int) + 1) * 64).toNat = 64 * k + 64 := by omega
        rw [run_slice_string_if W 9 p .i64 .i64 _ _ Tryd.underlying9, if_pos (by omega), e1, e2, if_pos (by omega)]
      go_wp2_with fail
      refine wp_region_still_tail 8 (by kernel_rfl) (by kernel_rfl) ?_
      simp only [List.take_succ_cons, List.take_zero, List.drop_succ_cons, List.drop_zero]
      repeat still_step
      refine wpStill_nil ?_
      change wpList _ _ _ _ _ wr.drew
      rw [← uarr8 (hashN (padL s.data.toList) k)]
      clear c0 c1 c2 c3 c4 c5 c6 c7 hsl i0 i1 i2 i3
      go_wp2_with fail
      have hbs : (p.extract (64 * k) (64 * k + 64)).size = 64 := by rw [ByteArray.size_extract]; have := HPM.out; omega
      refine (compress_any kF _ _ hbs _ (fun i hi => (hb.drew.cell (by simpa using l1)).trans (HR.out.2 i hi))).mono ?_
      rintro e w2 ⟨rfl, b2⟩
      have hbl : (p.extract (64 * k) (64 * k + 64)).data.toList = blockL (padL s.data.toList) k := by
        rw [extract_list, HPL.out, show 64 * k + 64 - 64 * k = 64 by omega]; rfl
      rw [hbl]
      have B2 : Below w.heap.size w w2 := hb.drew.trans (b2.mono (by have := hb.size; simpa using this))
      have J1 := Lib.hid (below_blk b2 H1.out.drew H1.out.lt)
      have J2 := Lib.hid (below_blk b2 H2.out.drew H2.out.lt)
      clear hb H1 H2 b2 hbl hbs
      go_wp2_with ((with_reducible refine at_store 3 23 ?_); refine wpList_store_arr rfl 78 (.tmp 3) (.tmp 23) rfl rfl (w.heap.size + 1) (uarr 8 (hashN (padL s.data.toList) (k + 1))) rfl rfl 78 _ J1.out (by rw [uarr_size]; kernel_rfl) (by rw [uarr_size, uarr_size]) (uarr_one _ _) ?_; intro w5 o5 b5)
      go_roundw
      case rel => exact ⟨k + 1, by omega, by go_num, b5, o5.blk J2.out (by simp), B2.trans (o5.below (by simp))⟩
      case measure => simp [intOf]; omega
    · have hkm := Lib.hid (show k = (padL s.data.toList).length / 64 by have := HPM.out; have := HPS.out; omega)
      clear hc
      go_wp2_with ((with_reducible refine at_load 3 ?_); refine wpList_load_row rfl 78 (.tmp 3) rfl (w.heap.size + 1) rfl 78 (uarr 8 (hashN (padL s.data.toList) k)) (0, 0) _ H1.out Tryd.underlying78 rfl (by rw [uarr_size]; kernel_rfl) ?_)
      refine (skey_any _ _).mono ?_
      rintro e w2 ⟨rfl, b2⟩
      have J2 := Lib.hid (below_blk b2 H2.out H2.out.lt)
      have B2 : Below w.heap.size w w2 := hb.trans (b2.mono hb.size)
      have hlen : (hashBytes (hashN (padL s.data.toList) k)).length = 32 := tab_len _ _
      have he : hashBytes (hashN (padL s.data.toList) k) = sumL s.data.toList := by rw [hkm.out]; rfl
      have HKM := Lib.hid he
      have HLEN := Lib.hid hlen
      clear hkm he hlen H1 H2 b2 hb
      go_wp2_with ((with_reducible refine at_store 2 26 ?_); refine wpList_store_arr rfl 26 (.tmp 2) (.tmp 26) rfl rfl w.heap.size (bytesA (hashBytes (hashN (padL s.data.toList) k))) rfl rfl 26 _ J2.out (by rw [bytesA_size, HLEN.out]; kernel_rfl) (by rw [bytesA_size, bytesA_size, HLEN.out]; simp) (bytesA_one _) ?_; intro w5 o5 b5)
      rw [HKM.out] at b5
      exact bodyPost_ret (results_cell_row rfl _ _ w.heap.size 26 _ (0, 0) _ rfl b5 Tryd.underlying26 rfl (by rw [bytesA_size, sumL_len]; kernel_rfl)) rfl ⟨rfl, B2.trans (o5.below (by simp))⟩
end Go.Proofs.YtgcopgnkfokphaaDoor
