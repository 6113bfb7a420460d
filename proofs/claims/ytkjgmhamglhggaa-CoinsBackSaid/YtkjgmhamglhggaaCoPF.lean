/- The project's Find. Written by genCoPF.py. -/
import Derived.Test.YtkjgmhamglhggaaCoPT
namespace Go.Proofs.Ytkjgmhamglhggaa
open Go.RowKit
theorem firstCo_of (p : CoinV → Bool) (l : List CoinV) : (firstCo p l = -1 ∧ l.find? p = none ∧ l.findIdx? p = none) ∨ ∃ (j : Nat) (hj : j < l.length), firstCo p l = (j : Int) ∧ l.find? p = some (l[j]'hj) ∧ l.eraseP p = l.eraseIdx j ∧ l.findIdx? p = some j := by
  cases h : l.findIdx? p with
  | none =>
    left
    have h2 := h
    rw [List.findIdx?_eq_none_iff] at h
    exact ⟨firstCo_none p l (fun j hj => h _ (List.getElem_mem hj)), List.find?_eq_none.2 (fun x hx => by simpa using h x hx), rfl⟩
  | some j =>
    right
    have h2 := h
    rw [List.findIdx?_eq_some_iff_getElem] at h2
    obtain ⟨hj, he, hq⟩ := h2
    refine ⟨j, hj, firstCo_at p l j hj he (fun k hk hkj => by simpa using hq k hkj), ?_, ?_, rfl⟩
    · rw [List.find?_eq_some_iff_getElem]
      exact ⟨he, j, hj, rfl, fun k hk => by simpa using hq k hk⟩
    · rw [List.eraseP_eq_eraseIdx, h]
set_option maxRecDepth 20000 in
set_option maxHeartbeats 2000000 in
theorem pFind_r (A : Option Addr) (c : Nat) (l : List CoinV) (p : PtV) (w : World) (hl : RowIn encC 68 w w.heap.size A c l) (hn : l.length ≤ 100000) :
    Calls Try.prog 16 #[.slice A l.length c, .agg (encKI .u32 p).toArray] w fun e w' => e = .returned (.tuple #[.agg (encC ((findK l p).getD zeroCoin)).toArray, .bool (findK l p).isSome]) ∧ Below w.heap.size w w' := by
  obtain ⟨Z, hZ, hz, hzs, hzn⟩ := zero_of zeroCo_ok zeroC_size
  have HS := Lib.hid hzs
  have B0 := Lib.hid (show Below w.heap.size w ((w.alloc (.cells (encKI .u32 p).toArray 32)).alloc (.cells Z 49)) from ((Below.refl w.heap.size w).alloc (Nat.le_refl _) _).alloc (by simp) _)
  have K0 := Lib.hid (show Blk ((w.alloc (.cells (encKI .u32 p).toArray 32)).alloc (.cells Z 49)) w.heap.size 32 (encKI .u32 p).toArray from (Blk.new w 32 (encKI .u32 p).toArray).alloc _)
  have Z0 := Lib.hid (show Blk ((w.alloc (.cells (encKI .u32 p).toArray 32)).alloc (.cells Z 49)) (w.heap.size + 1) 49 Z from blk_new (g := w.heap.size + 1) 49 Z (by simp))
  have HL := Lib.hid hl
  have HPL := Lib.hid (firstCo_of (fun x => decide (x.at_ = p)) l)
  have HN := Lib.hid hn
  clear hl hZ hzs
  go_enter Try.func16, Try.ntmps16
  go_wp2_with fail
  refine (cIndexFunc_any A c l w.heap.size _ (by have := HN.out; omega) B0.out.size (HL.out.below B0.out) 41 #[.pointer (some ⟨w.heap.size, 0, none⟩)] (fun x => decide (x.at_ = p)) entersF1 (fun x W hW => find1_any w.heap.size p x W (below_blk hW K0.out K0.out.lt))).mono ?_
  rintro e w1 ⟨rfl, b1⟩
  have B1 := Lib.hid (B0.out.trans (b1.mono B0.out.size))
  have Z1 := Lib.hid (below_blk b1 Z0.out Z0.out.lt)
  clear b1 B0 K0 Z0
  rcases HPL.out with ⟨h1, h2, _⟩ | ⟨j, hj, h1, h2, _, _⟩
  · have HE := Lib.hid (show findK l p = _ from h2)
    rw [h1]
    clear h1 h2
    go_wp2_with (first
      | ((with_reducible refine at_build 12 ?_); refine wpList_built rfl 49 #[] rfl (encC zeroCoin).toArray (by kernel_rfl) ?_)
      | ((with_reducible refine at_store 4 12 ?_); refine tyCoc.wpList_store rfl (.tmp 4) (.tmp 12) rfl rfl (w.heap.size + 1) zeroCoin rfl rfl 49 _ Z1.out (by rw [HS.out]) ?_; intro w7 o7 b7))
    refine bodyPost_ret (results_cell_tmp1 rfl _ _ (w.heap.size + 1) 49 _ (0, 0) _ rfl b7 (show Try.prog.underlying 49 = some (.struct #[(Try.prog.fieldsOf 49)[0]!, (Try.prog.fieldsOf 49)[1]!, (Try.prog.fieldsOf 49)[2]!, (Try.prog.fieldsOf 49)[3]!]) by kernel_rfl) rfl (by rw [tyCoc.arr]; kernel_rfl)) rfl ⟨?_, B1.out.trans (o7.below (by simp))⟩
    rw [HE.out]
    rfl
  · have HE := Lib.hid (show findK l p = _ from h2)
    rw [h1]
    obtain ⟨g, o, hA, hg, hc⟩ := (HL.out.below B1.out).at encC_len hj
    obtain ⟨x, hx⟩ : ∃ x, l[j]'hj = x := ⟨_, rfl⟩
    rw [hx] at hc HE
    subst hA
    have HX := Lib.hid hc
    have hi0 : (0 : Int) ≤ (j : Int) := by omega
    have hi1 : (j : Int) < (l.length : Int) := by omega
    have hng : decide ((j : Int) < 0) = false := by simp
    clear h1 h2 hc hg hx
    go_wp2_with (first
      | ((with_reducible refine at_load 15 ?_); refine tyCo.wpList_load rfl (.tmp 15) rfl g (o + j * 68) rfl x HX.out ?_)
      | ((with_reducible refine at_store 4 16 ?_); refine tyCoc.wpList_store rfl (.tmp 4) (.tmp 16) rfl rfl (w.heap.size + 1) x rfl rfl 49 _ Z1.out (by rw [HS.out]) ?_; intro w7 o7 b7))
    refine bodyPost_ret (results_cell_tmp1 rfl _ _ (w.heap.size + 1) 49 _ (0, 0) _ rfl b7 (show Try.prog.underlying 49 = some (.struct #[(Try.prog.fieldsOf 49)[0]!, (Try.prog.fieldsOf 49)[1]!, (Try.prog.fieldsOf 49)[2]!, (Try.prog.fieldsOf 49)[3]!]) by kernel_rfl) rfl (by rw [tyCoc.arr]; kernel_rfl)) rfl ⟨?_, B1.out.trans (o7.below (by simp))⟩
    rw [HE.out]
    rfl
theorem pFind_c : FindOk := fun A c l p w hn hl => pFind_r A c l p w hl (by omega)
end Go.Proofs.Ytkjgmhamglhggaa
