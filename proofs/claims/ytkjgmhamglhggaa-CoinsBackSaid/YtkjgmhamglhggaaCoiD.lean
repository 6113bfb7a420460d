/- The document's Find and without of coins; the law's theirs. -/
import Derived.Test.YtkjgmhamglhggaaCoiC
namespace Go.Proofs.Ytkjgmhamglhggaa
open Go.RowKit
def zeroCoin : CoinV := ⟨(zeroKey, ⟨0, by decide⟩), (⟨0, by decide⟩, zeroKey), ⟨0, by decide⟩, false⟩
abbrev findK (l : List CoinV) (p : PtV) : Option CoinV := findC CoinV.at_ l p
theorem placeF_of (l : List CoinV) (p : PtV) : (placeF l p = -1 ∧ findK l p = none) ∨ ∃ (j : Nat) (hj : j < l.length), placeF l p = (j : Int) ∧ findK l p = some (l[j]'hj) ∧ delC CoinV.at_ l p = l.eraseIdx j := by
  cases h : l.findIdx? (fun c => decide (c.at_ = p)) with
  | none =>
    left
    refine ⟨by unfold placeF; rw [h], ?_⟩
    rw [List.findIdx?_eq_none_iff] at h
    exact List.find?_eq_none.2 (fun x hx => by simpa using h x hx)
  | some j =>
    right
    have h2 := h
    rw [List.findIdx?_eq_some_iff_getElem] at h2
    obtain ⟨hj, he, hq⟩ := h2
    refine ⟨j, hj, by unfold placeF; rw [h], ?_, ?_⟩
    · show l.find? _ = _
      rw [List.find?_eq_some_iff_getElem]
      exact ⟨he, j, hj, rfl, fun k hk => by simpa using hq k hk⟩
    · unfold delC
      rw [List.eraseP_eq_eraseIdx]
      show (match l.findIdx? (fun c => decide (c.at_ = p)) with | none => l | some i => l.eraseIdx i) = _
      rw [h]
theorem cown_grown {w w' : World} {base : Nat} {e : TypeId} {size n : Nat} {v : Value} {xs : List Value} (h : w.ownsRow base e size v n xs) (hg : w.grownBy w' v.ownBlock) (hB : base ≤ w.heap.size) : Below base w w' := (Below.refl _ _).grown hg hB (own_base h)
theorem cown_congr {w : World} {base : Nat} {e : TypeId} {size : Nat} {v : Value} {l m : List CoinV} (h : w.ownsRow base e size v l.length (cellsOf encC l)) (e' : l = m) : w.ownsRow base e size v m.length (cellsOf encC m) := e' ▸ h
theorem cown_nil {w : World} {g : Nat} {base : Nat} {e : TypeId} {k : Nat} (hb : Blk w g e #[]) (hg : base ≤ g) : w.ownsRow base e k (.slice (some ⟨g, 0, none⟩) 0 0) 0 [] :=
  ⟨by simp, .inr ⟨g, 0, #[], rfl, hg, hb, Nat.le_refl _, Nat.zero_le _, by simp, by simp⟩⟩
theorem zeroCr_ok : ((Try.prog.info? 52).bind (·.zero)) = some (.agg (encC zeroCoin).toArray) := by kernel_rfl
theorem zeroC_size : (encC zeroCoin).toArray.size = 67 + 1 := by rw [List.size_toArray, encC_len]
theorem czcR : ((Try.prog.info? 52).bind (·.zero)).map (·.cells.size) = some 68 := by kernel_rfl
theorem czsR : ((Try.prog.info? 52).bind (·.zero)).isSome = true := by kernel_rfl
theorem czbR : ∃ b, (Try.prog.info? 52).map (·.bytes) = some b ∧ b ≤ 100000 := by
  refine ⟨((Try.prog.info? 52).map (·.bytes)).getD 0, ?_, ?_⟩
  · kernel_rfl
  · exact of_decide_eq_true (by kernel_rfl)
set_option maxRecDepth 20000 in
set_option maxHeartbeats 2000000 in
theorem theirs_r (A : Option Addr) (c : Nat) (l : List CoinV) (w : World) (hl : RowIn encC 68 w w.heap.size A c l) (hn : l.length ≤ 1000) :
    Calls Try.prog 13 #[.slice A l.length c] w fun e w' => ∃ A' c', e = .returned (.slice A' l.length c') ∧ RowIn encC 68 w' w'.heap.size A' c' l ∧ Below w.heap.size w w' := by
  obtain ⟨bb, hbb, hbl⟩ := czbR
  have HBB := Lib.hid hbb
  have HBL := Lib.hid hbl
  have B0 := Lib.hid (show Below w.heap.size w (w.alloc (.cells #[] 52)) from (Below.refl w.heap.size w).alloc (Nat.le_refl _) _)
  have O0 := Lib.hid (show World.ownsRow (w.alloc (.cells #[] 52)) w.heap.size 52 68 (.slice (some ⟨w.heap.size, 0, none⟩) 0 0) (l.take 0).length (cellsOf encC (l.take 0)) from cown_nil (Blk.new w 52 #[]) (Nat.le_refl _))
  have HL := Lib.hid hl
  clear hl hbb hbl
  go_enter Try.func13, Try.ntmps13
  go_wp2_with fail
  go_loopw [3, 4] (fun so si wr => ∃ j : Nat, si = .int .i64 j ∧ j ≤ l.length ∧ Hid (wr.ownsRow w.heap.size 52 68 so (l.take j).length (cellsOf encC (l.take j))) ∧ Hid (Below w.heap.size w wr)) (fun _ si _ => l.length - (intOf si).toNat)
  case atStart => exact ⟨0, rfl, by omega, O0, B0⟩
  case round =>
    clear O0 B0
    obtain ⟨j, rfl, hj, OW, HB⟩ := hrel
    by_cases hlt : j < l.length
    · have hd : decide ((j : Int) < (l.length : Int)) = true := by simp; omega
      obtain ⟨g, o, hA, hg, hc⟩ := (HL.out.below HB.out).at encC_len hlt
      obtain ⟨x, hx⟩ : ∃ x, l[j]'hlt = x := ⟨_, rfl⟩
      rw [hx] at hc
      subst hA
      have HX := Lib.hid hc
      have HTS := Lib.hid (show l.take j ++ [x] = l.take (j + 1) by rw [List.take_succ_eq_append_getElem hlt, hx])
      have HLL := Lib.hid (show (l.take j).length ≤ 1000 by rw [List.length_take]; omega)
      have hi0 : (0 : Int) ≤ (j : Int) := by omega
      have hi1 : (j : Int) < (l.length : Int) := by omega
      clear hx hc hg
      go_wp2_with (first
        | ((with_reducible refine at_load 15 ?_); refine tyCo.wpList_load rfl (.tmp 15) rfl g (o + j * 68) rfl x HX.out ?_)
        | ((with_reducible refine at_buildSlice 17 ?_); refine tyCr.wpList_build rfl czsR 1 _ rfl [x] rfl (by omega) (by omega) (by kernel_rfl) ?_)
        | ((with_reducible refine at_appendg 18 12 17 ?_); refine tyCr.wpList_append1 rfl czcR bb HBB.out HBL.out (.tmp 12) (.tmp 17) rfl w.heap.size _ (l.take j) rfl (OW.out.alloc _) _ 1 x rfl (Blk.new _ _ _) (by have := HLL.out; omega) (by have := HB.out.size; simp; omega) ?_; intro v5 w5 p5 g5
           have OW5 := Lib.hid (cown_congr p5 HTS.out)
           have B5 := Lib.hid ((HB.out.alloc HB.out.size _).trans (cown_grown (OW.out.alloc _) g5 (by have := HB.out.size; simp; omega)))
           clear p5 g5))
      go_roundw
      case rel => exact ⟨j + 1, by go_num, by omega, OW5, B5⟩
      case measure => simp [intOf]; omega
    · have hd : decide ((j : Int) < (l.length : Int)) = false := by simp; omega
      have OWA := cown_congr OW.out (show l.take j = l from List.take_of_length_le (by omega))
      obtain ⟨A5, c5, hv5, r5⟩ := RowIn.of_own encC_len OWA
      have R5 := Lib.hid r5
      subst hv5
      clear OWA r5
      go_wp2_with fail
      go_ret
      exact ⟨A5, c5, rfl, R5.out, HB.out⟩
theorem erase_put (l : List CoinV) (j i : Nat) (x : CoinV) (h : i ≠ j) (hi : i ≤ l.length) (ht : l.take i ++ [x] = l.take (i + 1)) : (l.take i).eraseIdx j ++ [x] = (l.take (i + 1)).eraseIdx j := by
  have hl : (l.take i).length = i := by rw [List.length_take]; omega
  rw [← ht]
  rcases Nat.lt_or_ge j i with h1 | h1
  · rw [List.eraseIdx_append_of_lt_length (by omega)]
  · rw [List.eraseIdx_append_of_length_le (by omega), List.eraseIdx_of_length_le (l := l.take i) (by omega), List.eraseIdx_of_length_le (l := [x]) (by simp; omega)]
theorem erase_skip (l : List CoinV) (j : Nat) : (l.take j).eraseIdx j = (l.take (j + 1)).eraseIdx j := by
  by_cases h : j < l.length
  · rw [List.take_succ_eq_append_getElem h, List.eraseIdx_of_length_le (l := l.take j) (by rw [List.length_take]; omega), List.eraseIdx_append_of_length_le (by rw [List.length_take]; omega)]
    have : j - (l.take j).length = 0 := by rw [List.length_take]; omega
    rw [this]
    simp
  · rw [List.take_of_length_le (by omega), List.take_of_length_le (by omega)]
set_option maxRecDepth 20000 in
set_option maxHeartbeats 2000000 in
theorem rWithout_r (A : Option Addr) (c : Nat) (l : List CoinV) (j : Nat) (w : World) (hl : RowIn encC 68 w w.heap.size A c l) (hn : l.length ≤ 1000000) :
    Calls Try.prog 34 #[.slice A l.length c, .int .i64 j] w fun e w' => ∃ A' c', e = .returned (.slice A' (l.eraseIdx j).length c') ∧ RowIn encC 68 w' w'.heap.size A' c' (l.eraseIdx j) ∧ Below w.heap.size w w' ∧ ∀ a, A' = some a → w.heap.size ≤ a.block := by
  obtain ⟨bb, hbb, hbl⟩ := czbR
  have HBB := Lib.hid hbb
  have HBL := Lib.hid hbl
  have B0 := Lib.hid (show Below w.heap.size w (w.alloc (.cells #[] 52)) from (Below.refl w.heap.size w).alloc (Nat.le_refl _) _)
  have O0 := Lib.hid (show World.ownsRow (w.alloc (.cells #[] 52)) w.heap.size 52 68 (.slice (some ⟨w.heap.size, 0, none⟩) 0 0) ((l.take 0).eraseIdx j).length (cellsOf encC ((l.take 0).eraseIdx j)) from cown_nil (Blk.new w 52 #[]) (Nat.le_refl _))
  have HL := Lib.hid hl
  clear hl hbb hbl
  go_enter Try.func34, Try.ntmps34
  go_wp2_with fail
  go_loopw [5, 6] (fun so si wr => ∃ i : Nat, si = .int .i64 i ∧ i ≤ l.length ∧ Hid (wr.ownsRow w.heap.size 52 68 so ((l.take i).eraseIdx j).length (cellsOf encC ((l.take i).eraseIdx j))) ∧ Hid (Below w.heap.size w wr)) (fun _ si _ => l.length - (intOf si).toNat)
  case atStart => exact ⟨0, rfl, by omega, O0, B0⟩
  case round =>
    clear O0 B0
    obtain ⟨i, rfl, hi, OW, HB⟩ := hrel
    by_cases hlt : i < l.length
    · have hd : decide ((i : Int) < (l.length : Int)) = true := by simp; omega
      by_cases hij : i = j
      · have hne : ((i : Int) != (j : Int)) = false := by rw [hij]; simp
        have OW2 := Lib.hid (cown_congr OW.out (show (l.take i).eraseIdx j = (l.take (i + 1)).eraseIdx j by rw [hij]; exact erase_skip l j))
        go_wp2_with fail
        go_roundw
        case rel => exact ⟨i + 1, by go_num, by omega, OW2, HB⟩
        case measure => simp [intOf]; omega
      · have hne : ((i : Int) != (j : Int)) = true := by simp; omega
        obtain ⟨g, o, hA, hg, hc⟩ := (HL.out.below HB.out).at encC_len hlt
        obtain ⟨x, hx⟩ : ∃ x, l[i]'hlt = x := ⟨_, rfl⟩
        rw [hx] at hc
        subst hA
        have HX := Lib.hid hc
        have HTS := Lib.hid (erase_put l j i x hij hi (by rw [List.take_succ_eq_append_getElem hlt, hx]))
        have HLL := Lib.hid (show ((l.take i).eraseIdx j).length ≤ 1000000 from Nat.le_trans (List.length_eraseIdx_le _ _) (by rw [List.length_take]; omega))
        have hi0 : (0 : Int) ≤ (i : Int) := by omega
        have hi1 : (i : Int) < (l.length : Int) := by omega
        clear hx hc hg
        go_wp2_with (first
          | ((with_reducible refine at_load 20 ?_); refine tyCr.wpList_load rfl (.tmp 20) rfl g (o + i * 68) rfl x HX.out ?_)
          | ((with_reducible refine at_buildSlice 22 ?_); refine tyCr.wpList_build rfl czsR 1 _ rfl [x] rfl (by omega) (by omega) (by kernel_rfl) ?_)
          | ((with_reducible refine at_appendg 23 17 22 ?_); refine tyCr.wpList_append1 rfl czcR bb HBB.out HBL.out (.tmp 17) (.tmp 22) rfl w.heap.size _ ((l.take i).eraseIdx j) rfl (OW.out.alloc _) _ 1 x rfl (Blk.new _ _ _) (by have := HLL.out; omega) (by have := HB.out.size; simp; omega) ?_; intro v5 w5 p5 g5
             have OW5 := Lib.hid (cown_congr p5 HTS.out)
             have B5 := Lib.hid ((HB.out.alloc HB.out.size _).trans (cown_grown (OW.out.alloc _) g5 (by have := HB.out.size; simp; omega)))
             clear p5 g5))
        go_roundw
        case rel => exact ⟨i + 1, by go_num, by omega, OW5, B5⟩
        case measure => simp [intOf]; omega
    · have hd : decide ((i : Int) < (l.length : Int)) = false := by simp; omega
      have OWA := cown_congr OW.out (show (l.take i).eraseIdx j = l.eraseIdx j by rw [List.take_of_length_le (by omega)])
      obtain ⟨A5, c5, hv5, r5⟩ := RowIn.of_own encC_len OWA
      have R5 := Lib.hid r5
      subst hv5
      have F5 := Lib.hid (show ∀ a, A5 = some a → w.heap.size ≤ a.block from fun a hA => own_base OWA a.block (by subst hA; rfl))
      clear OWA r5
      go_wp2_with fail
      go_ret
      exact ⟨A5, c5, rfl, R5.out, HB.out, F5.out⟩
set_option maxRecDepth 20000 in
set_option maxHeartbeats 2000000 in
theorem rFind_r (A : Option Addr) (c : Nat) (l : List CoinV) (p : PtV) (w : World) (hl : RowIn encC 68 w w.heap.size A c l) (hn : l.length ≤ 100000) :
    Calls Try.prog 17 #[.slice A l.length c, .agg (encKI .u32 p).toArray] w fun e w' => e = .returned (.tuple #[.agg (encC ((findK l p).getD zeroCoin)).toArray, .bool (findK l p).isSome]) ∧ Below w.heap.size w w' := by
  obtain ⟨Z, hZ, hz, hzs, hzn⟩ := zero_of zeroCr_ok zeroC_size
  have HS := Lib.hid hzs
  have B0 := Lib.hid (show Below w.heap.size w ((w.alloc (.cells (encKI .u32 p).toArray 32)).alloc (.cells Z 52)) from ((Below.refl w.heap.size w).alloc (Nat.le_refl _) _).alloc (by simp) _)
  have K0 := Lib.hid (show Blk ((w.alloc (.cells (encKI .u32 p).toArray 32)).alloc (.cells Z 52)) w.heap.size 32 (encKI .u32 p).toArray from (Blk.new w 32 (encKI .u32 p).toArray).alloc _)
  have Z0 := Lib.hid (show Blk ((w.alloc (.cells (encKI .u32 p).toArray 32)).alloc (.cells Z 52)) (w.heap.size + 1) 52 Z from blk_new (g := w.heap.size + 1) 52 Z (by simp))
  have HL := Lib.hid hl
  have HPL := Lib.hid (placeF_of l p)
  have HN := Lib.hid hn
  clear hl hZ hzs
  go_enter Try.func17, Try.ntmps17
  go_wp2_with ((with_reducible refine at_load 3 ?_); refine tyPc.wpList_load rfl (.tmp 3) rfl w.heap.size 0 rfl p (RowC.of_blk K0.out) ?_)
  refine (rPlace_r A c l p _ ((HL.out.below B0.out).more B0.out.size) HN.out).mono ?_
  rintro e w1 ⟨rfl, b1⟩
  have B1 := Lib.hid (B0.out.trans (b1.mono B0.out.size))
  have Z1 := Lib.hid (below_blk b1 Z0.out Z0.out.lt)
  clear b1 B0 K0 Z0
  rcases HPL.out with ⟨h1, h2⟩ | ⟨j, hj, h1, h2, _⟩
  · have HE := Lib.hid h2
    rw [h1]
    clear h1 h2
    go_wp2_with (first
      | ((with_reducible refine at_build 12 ?_); refine wpList_built rfl 52 #[] rfl (encC zeroCoin).toArray (by kernel_rfl) ?_)
      | ((with_reducible refine at_store 4 12 ?_); refine tyCrc.wpList_store rfl (.tmp 4) (.tmp 12) rfl rfl (w.heap.size + 1) zeroCoin rfl rfl 52 _ Z1.out (by rw [HS.out]) ?_; intro w7 o7 b7))
    refine bodyPost_ret (results_cell_tmp1 rfl _ _ (w.heap.size + 1) 52 _ (0, 0) _ rfl b7 (show Try.prog.underlying 52 = some (.struct #[(Try.prog.fieldsOf 52)[0]!, (Try.prog.fieldsOf 52)[1]!, (Try.prog.fieldsOf 52)[2]!, (Try.prog.fieldsOf 52)[3]!]) by kernel_rfl) rfl (by rw [tyCrc.arr]; kernel_rfl)) rfl ⟨?_, B1.out.trans (o7.below (by simp))⟩
    rw [HE.out]
    rfl
  · have HE := Lib.hid h2
    rw [h1]
    obtain ⟨g, o, hA, hg, hc⟩ := (HL.out.below B1.out).at encC_len hj
    obtain ⟨x, hx⟩ : ∃ x, l[j]'hj = x := ⟨_, rfl⟩
    rw [hx] at hc HE
    subst hA
    have HX := Lib.hid hc
    have hi0 : (0 : Int) ≤ (j : Int) := by omega
    have hi1 : (j : Int) < (l.length : Int) := by omega
    have hng : decide ((j : Int) < 0) = false := by simp
    clear h1 h2 hc hg hx
    go_wp2_with (first
      | ((with_reducible refine at_load 15 ?_); refine tyCr.wpList_load rfl (.tmp 15) rfl g (o + j * 68) rfl x HX.out ?_)
      | ((with_reducible refine at_store 4 16 ?_); refine tyCrc.wpList_store rfl (.tmp 4) (.tmp 16) rfl rfl (w.heap.size + 1) x rfl rfl 52 _ Z1.out (by rw [HS.out]) ?_; intro w7 o7 b7))
    refine bodyPost_ret (results_cell_tmp1 rfl _ _ (w.heap.size + 1) 52 _ (0, 0) _ rfl b7 (show Try.prog.underlying 52 = some (.struct #[(Try.prog.fieldsOf 52)[0]!, (Try.prog.fieldsOf 52)[1]!, (Try.prog.fieldsOf 52)[2]!, (Try.prog.fieldsOf 52)[3]!]) by kernel_rfl) rfl (by rw [tyCrc.arr]; kernel_rfl)) rfl ⟨?_, B1.out.trans (o7.below (by simp))⟩
    rw [HE.out]
    rfl
end Go.Proofs.Ytkjgmhamglhggaa
