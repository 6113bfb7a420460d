/- The document's Append. -/
import Derived.Test.YtfmidmhbnpincaaDoorTreeE
import Derived.Laws.BitsAllLaws
namespace Go.Proofs.YtfmidmhbnpincaaDoor
open Go.RowKit
abbrev upK (P : List K32) (x : K32) (i : Nat) : K32 := upV pairK zeroKey P x i
def appT (t : TrV) (k : K32) : TrV × Int :=
  if h : t.c = 4294967295 then (zT, 2) else (⟨t.c + 1, carryV pairK zeroKey t.c 32 0 t.P k, by have := t.hc; omega, by rw [carryV_len]; exact t.hP⟩, 0)
/-- the tree whose first i parts are gone -/
def goneT (t : TrV) (i : Nat) (h : i ≤ 32) : TrV := ⟨t.c, List.replicate i zeroKey ++ t.P.drop i, t.hc, by rw [List.length_append, List.length_replicate, List.length_drop, t.hP]; omega⟩
theorem goneT_zero (t : TrV) : goneT t 0 (by omega) = t := by cases t; rfl
theorem goneT_set (t : TrV) (i : Nat) (h : i < 32) : (goneT t i (by omega)).setP i zeroKey = goneT t (i + 1) (by omega) := by
  unfold goneT TrV.setP
  congr 1
  simp only
  rw [List.set_append_right _ _ (by simp), List.length_replicate, Nat.sub_self, List.replicate_succ', List.append_assoc]
  congr 1
  rw [← List.getElem_cons_drop (by rw [t.hP]; exact h)]
  rfl
theorem goneT_get (t : TrV) (i : Nat) (h : i < 32) : (goneT t i (by omega)).P[i]'(by rw [(goneT t i (by omega)).hP]; exact h) = t.P.getD i zeroKey := by
  apply Option.some.inj
  rw [← List.getElem?_eq_getElem]
  show (List.replicate i zeroKey ++ t.P.drop i)[i]? = _
  rw [List.getElem?_append_right (by simp), List.length_replicate, Nat.sub_self, List.getElem?_drop, Nat.add_zero, List.getD_eq_getElem?_getD, List.getElem?_eq_getElem (by rw [t.hP]; exact h)]
  rfl
theorem carry_eq (t : TrV) (x : K32) (j : Nat) (hj : j < 32) (h1 : ∀ k, k < j → bitN t.c k = true) (h0 : bitN t.c j = false) :
    carryV pairK zeroKey t.c 32 0 t.P x = (List.replicate j zeroKey ++ t.P.drop j).set j (upK t.P x j) := by
  obtain ⟨j', hj', h1', h0', hc⟩ := carryV_at pairK zeroKey t.c t.P x 32 0 t.P (fun _ _ => rfl) t.hP (by omega) (fun k hk => by omega) (fun k hk => by omega) ⟨j, by omega, by omega, hj, h0⟩
  obtain rfl : j' = j := by
    rcases Nat.lt_trichotomy j' j with h | h | h
    · rw [h1 j' h] at h0'; cases h0'
    · exact h
    · rw [h1' j h] at h0; cases h0
  apply List.ext_getElem?
  intro k
  by_cases hk : k < 32
  · have h2 := hc k hk
    rw [show upV pairK zeroKey t.P x 0 = x from rfl] at h2
    rw [h2]
    by_cases h3 : k < j'
    · rw [if_pos h3, List.getElem?_set_ne (by omega), List.getElem?_append_left (by simpa using h3), List.getElem?_replicate, if_pos h3]
    · rw [if_neg h3]
      by_cases h4 : k = j'
      · rw [if_pos h4, h4, List.getElem?_set_self (by rw [List.length_append, List.length_replicate, List.length_drop, t.hP]; omega)]
      · rw [if_neg h4, List.getElem?_set_ne (by omega), List.getElem?_append_right (by simp; omega), List.length_replicate, List.getElem?_drop, show j' + (k - j') = k by omega, List.getD_eq_getElem?_getD, List.getElem?_eq_getElem (by rw [t.hP]; exact hk)]
        rfl
  · rw [List.getElem?_eq_none (by rw [carryV_len, t.hP]; omega), List.getElem?_eq_none (by rw [List.length_set, List.length_append, List.length_replicate, List.length_drop, t.hP]; omega)]
theorem bit_test (c n : Nat) (hc : c < 4294967296) : (bits BinOp.and IntKind.u32 ((c : Int) / 2 ^ n) 1 == 1) = bitN c n := by
  have h1 : (c : Int) / 2 ^ n = ((c / 2 ^ n : Nat) : Int) := by
    rw [Int.natCast_ediv]
    norm_cast
  have h2 : c / 2 ^ n < 4294967296 := Nat.lt_of_le_of_lt (Nat.div_le_self _ _) hc
  rw [h1, show (1 : Int) = ((1 : Nat) : Int) from rfl, u32_and_nat _ 1 h2 (by omega), Nat.and_one_is_mod]
  unfold bitN
  rw [Bool.eq_iff_iff, beq_iff_eq, decide_eq_true_iff]
  omega
/-- what lies there while Append is at work -/
structure ApS (w : World) (Z : Array Value) (t : TrV) (x : K32) (W : World) : Prop where
  below : Below w.heap.size w W
  t : Blk W w.heap.size 33 t.cells.toArray
  r : Blk W (w.heap.size + 1 + 1) 33 Z
  x : Blk W (w.heap.size + 1 + 1 + 1) 24 (encK x).toArray
theorem ApS.call {w W W' : World} {Z : Array Value} {t : TrV} {x : K32} (h : ApS w Z t x W) (hb : Below W.heap.size W W') : ApS w Z t x W' :=
  ⟨h.below.trans (hb.mono h.below.size), below_blk hb h.t h.t.lt, below_blk hb h.r h.r.lt, below_blk hb h.x h.x.lt⟩
theorem ApS.drew {w W : World} {Z : Array Value} {t : TrV} {x : K32} (h : ApS w Z t x W) : ApS w Z t x W.drew := ⟨h.below.drew, h.t, h.r, h.x⟩
set_option maxRecDepth 100000 in
theorem rApp_full (t : TrV) (k : K32) (w : World) (hf : t.c = 4294967295) :
    Calls Tryd.prog 14 #[.agg t.cells.toArray, .agg (encK k).toArray] w fun e w' => e = .returned (.tuple #[.agg zT.cells.toArray, .int .i64 2]) ∧ Below w.heap.size w w' := by
  obtain ⟨Z, hZ, hz, hzs, hzn⟩ := zero_of zeroRf_ok zT_size
  have HS := Lib.hid hzs
  have c0 := TrV.c0 (RowC.of_blk (((Blk.new w 33 t.cells.toArray).alloc (.cells (encK k).toArray 24)).alloc (.cells Z 33)))
  rw [hf] at c0
  clear hZ hzs
  go_enter Tryd.func14, Tryd.ntmps14
  go_wp2_with (first
    | ((with_reducible refine at_build 11 ?_); refine wpList_built rfl 33 #[] rfl zT.cells.toArray (by kernel_rfl) ?_)
    | ((with_reducible refine at_store 4 11 ?_); refine tyRf.wpList_store rfl (.tmp 4) (.tmp 11) rfl rfl (w.heap.size + 1 + 1) zT rfl rfl 33 Z (by have := Blk.new ((w.alloc (.cells t.cells.toArray 33)).alloc (.cells (encK k).toArray 24)) 33 Z; simpa only [World.size_alloc] using this) (by rw [HS.out]) ?_; intro w2 o2 b2))
  exact bodyPost_ret (results_cell_tmp1 rfl _ _ (w.heap.size + 1 + 1) 33 _ (0, 0) _ rfl b2 Tryd.underlying33 rfl (by rw [tyRf.arr]; kernel_rfl)) rfl ⟨rfl, ((((Below.refl w.heap.size w).alloc (Nat.le_refl _) _).alloc (by simp) _).alloc (by simp; omega) _).trans (o2.below (by simp; omega))⟩
set_option maxRecDepth 100000 in
set_option maxHeartbeats 2000000 in
theorem rApp_some (t : TrV) (k : K32) (w : World) (hf : t.c ≠ 4294967295) :
    Calls Tryd.prog 14 #[.agg t.cells.toArray, .agg (encK k).toArray] w fun e w' => e = .returned (.tuple #[.agg (appT t k).1.cells.toArray, .int .i64 0]) ∧ Below w.heap.size w w' := by
  obtain ⟨Z, hZ, hz, hzs, hzn⟩ := zero_of zeroRf_ok zT_size
  have HS := Lib.hid hzs
  have c0 := TrV.c0 (RowC.of_blk (((Blk.new w 33 t.cells.toArray).alloc (.cells (encK k).toArray 24)).alloc (.cells Z 33)))
  have hd : ((t.c : Int) == 4294967295) = false := beq_eq_false_iff_ne.mpr (by omega)
  have HF := Lib.hid hf
  have kA := Lib.hid (show RowC (((w.alloc (.cells t.cells.toArray 33)).alloc (.cells (encK k).toArray 24)).alloc (.cells Z 33)) (w.heap.size + 1) 0 (encK k) from RowC.of_blk (by have := (Blk.new (w.alloc (.cells t.cells.toArray 33)) 24 (encK k).toArray).alloc (.cells Z 33); rwa [World.size_alloc] at this))
  have kT := Lib.hid (show Blk (((w.alloc (.cells t.cells.toArray 33)).alloc (.cells (encK k).toArray 24)).alloc (.cells Z 33)) w.heap.size 33 t.cells.toArray from ((Blk.new w 33 t.cells.toArray).alloc (.cells (encK k).toArray 24)).alloc (.cells Z 33))
  have kZ := Lib.hid (show Blk (((w.alloc (.cells t.cells.toArray 33)).alloc (.cells (encK k).toArray 24)).alloc (.cells Z 33)) (w.heap.size + 1 + 1) 33 Z from by have := Blk.new ((w.alloc (.cells t.cells.toArray 33)).alloc (.cells (encK k).toArray 24)) 33 Z; simpa only [World.size_alloc] using this)
  clear hZ hzs hf
  go_enter Tryd.func14, Tryd.ntmps14
  go_wp2_with (first
    | ((with_reducible refine at_load 3 ?_); refine tyKc.wpList_load rfl (.tmp 3) rfl (w.heap.size + 1) 0 rfl k kA.out ?_)
    | ((with_reducible refine at_store 6 12 ?_); refine tyKc.wpList_store rfl (.tmp 6) (.tmp 12) rfl rfl (w.heap.size + 1 + 1 + 1) k rfl rfl 24 _ (blk_new (g := w.heap.size + 1 + 1 + 1) 24 _ (by simp)) rfl ?_; intro w2 o2 b2
       have A0 := Lib.hid (show ApS w Z t k w2 from ⟨(((((Below.refl w.heap.size w).alloc (Nat.le_refl _) _).alloc (by simp) _).alloc (by simp; omega) _).alloc (by simp; omega) _).trans (o2.below (by simp; omega)), o2.blk (kT.out.alloc _) (by simp <;> omega), o2.blk (kZ.out.alloc _) (by simp <;> omega), b2⟩)
       clear o2 b2))
  clear hz hzn kA kT kZ c0 hd
  go_loopw [7] (fun i wr => ∃ (n : Nat) (hn : n < 32), i = .int .i64 n ∧ Hid (∀ m, m < n → bitN t.c m = true) ∧ Hid (ApS w Z (goneT t n (by omega)) (upK t.P k n) wr)) (fun i _ => 32 - (intOf i).toNat)
  case atStart => exact ⟨0, by omega, rfl, Lib.hid (fun m hm => by omega), A0⟩
  case round =>
    clear A0
    obtain ⟨n, hn, rfl, HB, AP⟩ := hrel
    have c0 : wr.cell? ⟨w.heap.size, 0, none⟩ = some (.int .u32 t.c) := TrV.c0 (t := goneT t n (by omega)) (RowC.of_blk AP.out.t)
    have hbt := bit_test t.c n t.hc
    have hge : (0 : Int) ≤ (n : Int) := by omega
    have hi1 : (n : Int) < 32 := by omega
    cases hb : bitN t.c n with
    | true =>
      rw [hb] at hbt
      have HB1 := Lib.hid hb
      have hn1 : n + 1 < 32 := by
        obtain ⟨j, hj, h0⟩ := full_bits (n := t.c) (by have := t.hc; have := HF.out; omega)
        rcases Nat.lt_trichotomy j n with h | h | h
        · rw [HB.out j h] at h0; cases h0
        · rw [h, hb] at h0; cases h0
        · omega
      clear hb
      go_wp2_with fail
      have AS := Lib.hid AP.out.drew
      obtain ⟨pn, hpn⟩ : ∃ pn, t.P.getD n zeroKey = pn := ⟨_, rfl⟩
      have HPN := Lib.hid (show pairK pn (upK t.P k n) = upK t.P k (n + 1) by rw [← hpn]; rfl)
      have HP := Lib.hid (show ∀ (W : World) (x : K32), ApS w Z (goneT t n (by omega)) x W → RowC W w.heap.size (1 + n * 32) (encK pn) from fun W x h => by
        have := TrV.c1 (t := goneT t n (by omega)) (RowC.of_blk h.t) n hn
        rwa [goneT_get t n hn, hpn] at this)
      clear hpn
      refine wp_region_held_drew (S := fun W => RowC W w.heap.size (1 + n * 32) (encK (pn))) (by kernel_rfl) (HP.out _ _ AS.out) ?_
      intro hS
      refine wpAnyH_take (i := 0) (v := .int .i64 n) rfl (by kernel_rfl) (by kernel_rfl) (by kernel_rfl) (fun _ _ _ h => h) (Or.inl ⟨by rfl, fun W _ => by go_simp; try with_reducible rfl⟩) hS ?_
      simp only [Act.put, List.getElem_toArray, List.getElem_cons_zero, List.setIfInBounds_toArray, List.set_cons_succ, List.set_cons_zero]
      refine wpAnyH_take (i := 1) (v := .pointer (some ⟨w.heap.size, 1, none⟩)) rfl (by kernel_rfl) (by kernel_rfl) (by kernel_rfl) (fun _ _ _ h => h) (Or.inl ⟨by rfl, fun W _ => by go_simp; try with_reducible rfl⟩) hS ?_
      simp only [Act.put, List.getElem_toArray, List.getElem_cons_zero, List.getElem_cons_succ, List.setIfInBounds_toArray, List.set_cons_succ, List.set_cons_zero]
      refine wpAnyH_take (i := 2) (v := .pointer (some ⟨w.heap.size, 1 + n * 32, none⟩)) rfl (by kernel_rfl) (by kernel_rfl) (by kernel_rfl) (fun _ _ _ h => h) (Or.inl ⟨by rfl, fun W _ => by go_simp; try with_reducible rfl⟩) hS ?_
      simp only [Act.put, List.getElem_toArray, List.getElem_cons_zero, List.getElem_cons_succ, List.setIfInBounds_toArray, List.set_cons_succ, List.set_cons_zero]
      refine wpAnyH_take (i := 3) (v := .agg (encK (pn)).toArray) rfl (by kernel_rfl) (by kernel_rfl) (by kernel_rfl) (fun _ _ _ h => h) (tyKc.yieldsIf_load (by rfl) (.tmp 21) rfl (w.heap.size) (1 + n * 32) rfl (pn) (fun _ h => h)) hS ?_
      simp only [Act.put, List.getElem_toArray, List.getElem_cons_zero, List.getElem_cons_succ, List.setIfInBounds_toArray, List.set_cons_succ, List.set_cons_zero]
      refine wpAnyH_ready (rs := [4]) (by kernel_rfl) (by simp) ?_
      refine AllReadyH.cons rfl (fun Kq hK => ?_) AllReadyH.nil
      refine tyKc.step_load (by rfl) (.tmp 6) rfl (w.heap.size + 1 + 1 + 1) 0 rfl (upK t.P k n) (by simpa using RowC.of_blk AS.out.x) ?_
      refine hK.out _ _ hS (fun hS => ?_)
      clear hK Kq
      simp only [Act.put, List.getElem_toArray, List.getElem_cons_zero, List.getElem_cons_succ, List.setIfInBounds_toArray, List.set_cons_succ, List.set_cons_zero]
      refine wpAnyH_ready (rs := [5]) (by kernel_rfl) (by simp) ?_
      refine AllReadyH.cons rfl (fun Kq hK => ?_) AllReadyH.nil
      go_simp
      with_reducible refine (rPair_r (pn) (upK t.P k n) _).mono ?_
      rintro e x1 ⟨rfl, b1⟩
      rw [HPN.out]
      have A1 := Lib.hid (AS.out.call b1)
      refine hK.out _ _ (HP.out _ _ A1.out) (fun hS => ?_)
      clear hK Kq b1 AS
      refine wpAnyH_ready (rs := [6]) (by kernel_rfl) (by simp) ?_
      refine AllReadyH.cons rfl (fun Kq hK => ?_) AllReadyH.nil
      refine tyKc.step_storeAt rfl (.tmp 6) (.tmp 24) rfl rfl (w.heap.size + 1 + 1 + 1) 0 (upK t.P k (n + 1)) rfl rfl 24 _ A1.out.x (by rw [encK_len]; omega) ?_
      intro w4 o4 b4
      have A4 := Lib.hid (show ApS w Z (goneT t n (by omega)) (upK t.P k (n + 1)) w4 from ⟨A1.out.below.trans (o4.below (by simp <;> omega)), o4.blk A1.out.t (by simp <;> omega), o4.blk A1.out.r (by simp <;> omega), by
        have e : (encK (upK t.P k n)).take 0 ++ encK (upK t.P k (n + 1)) ++ (encK (upK t.P k n)).drop (0 + 32) = encK (upK t.P k (n + 1)) := by
          rw [List.take_zero, List.nil_append, List.drop_of_length_le (by rw [encK_len]; omega), List.append_nil]
        rw [e] at b4
        exact b4⟩)
      refine hK.out _ _ (HP.out _ _ A4.out) (fun _ => ?_)
      clear hK Kq hS o4 b4 A1 HP
      refine wpAnyH_done (by kernel_rfl) ?_ _
      go_wp2_with (first
        | ((with_reducible refine at_store 28 26 ?_); refine tyKc.wpList_storeAt rfl (.tmp 28) (.tmp 26) rfl rfl w.heap.size (1 + n * 32) zeroKey rfl (congrArg Value.agg lit32k) 33 _ A4.out.t (by rw [TrV.len]; omega) ?_; intro w5 o5 b5; rw [TrV.set_part _ n hn, goneT_set t n hn] at b5
           have A5 := Lib.hid (show ApS w Z (goneT t (n + 1) (by omega)) (upK t.P k (n + 1)) w5 from ⟨A4.out.below.trans (o5.below (by simp)), b5, o5.blk A4.out.r (by simp <;> omega), o5.blk A4.out.x (by simp <;> omega)⟩)
           clear o5 b5))
      go_roundw
      case rel => exact ⟨n + 1, hn1, by go_num, Lib.hid (fun m hm => by
        by_cases h : m = n
        · rw [h]; exact HB1.out
        · exact HB.out m (by omega)), A5⟩
      case measure => simp [intOf]; omega
    | false =>
      rw [hb] at hbt
      have HB0 := Lib.hid hb
      clear hb
      have AS := Lib.hid AP.out
      have hadd : IntKind.u32.wrap ((t.c : Int) + 1) = (t.c : Int) + 1 := by have := t.hc; have := HF.out; rw [IntKind.wrap_u32']; omega
      have HC1 := Lib.hid (show t.c + 1 < 4294967296 by have := t.hc; have := HF.out; omega)
      go_wp2_with (first
        | ((with_reducible refine at_load 6 ?_); refine tyKc.wpList_load rfl (.tmp 6) rfl (w.heap.size + 1 + 1 + 1) 0 rfl (upK t.P k n) (by simpa using RowC.of_blk AS.out.x) ?_)
        | ((with_reducible refine at_store 34 32 ?_); refine tyKc.wpList_storeAt rfl (.tmp 34) (.tmp 32) rfl rfl w.heap.size (1 + n * 32) (upK t.P k n) rfl rfl 33 _ AS.out.t (by rw [TrV.len]; omega) ?_; intro w5 o5 b5; rw [TrV.set_part _ n hn] at b5
           have A5 := Lib.hid (show ApS w Z ((goneT t n (by omega)).setP n (upK t.P k n)) (upK t.P k n) w5 from ⟨AS.out.below.trans (o5.below (by simp)), b5, o5.blk AS.out.r (by simp <;> omega), o5.blk AS.out.x (by simp <;> omega)⟩)
           have c5 : w5.cell? ⟨w.heap.size, 0, none⟩ = some (.int .u32 t.c) := TrV.c0 (t := (goneT t n (by omega)).setP n (upK t.P k n)) (RowC.of_blk b5)
           clear o5 b5 AS c0)
        | ((with_reducible refine at_store 38 37 ?_); refine wpList_store_cell rfl 22 (.tmp 38) (.tmp 37) rfl rfl w.heap.size 0 (.int .u32 (t.c + 1 : Nat)) rfl (by congr 1) rfl 33 _ A5.out.t (by rw [tyRf.arr]; omega) (by kernel_rfl) ?_; intro w6 o6 b6; rw [TrV.set_count _ (t.c + 1) HC1.out] at b6
           have A6 := Lib.hid (show ApS w Z (((goneT t n (by omega)).setP n (upK t.P k n)).setC (t.c + 1) HC1.out) (upK t.P k n) w6 from ⟨A5.out.below.trans (o6.below (by simp)), b6, o6.blk A5.out.r (by simp <;> omega), o6.blk A5.out.x (by simp <;> omega)⟩)
           clear o6 b6 A5)
        | ((with_reducible refine at_load 2 ?_); refine tyRf.wpList_load rfl (.tmp 2) rfl w.heap.size 0 rfl (((goneT t n (by omega)).setP n (upK t.P k n)).setC (t.c + 1) HC1.out) (by simpa using RowC.of_blk A6.out.t) ?_)
        | ((with_reducible refine at_store 4 39 ?_); refine tyRf.wpList_store rfl (.tmp 4) (.tmp 39) rfl rfl (w.heap.size + 1 + 1) (((goneT t n (by omega)).setP n (upK t.P k n)).setC (t.c + 1) HC1.out) rfl rfl 33 Z A6.out.r (by rw [HS.out]) ?_; intro w7 o7 b7))
      refine bodyPost_ret (results_cell_tmp1 rfl _ _ (w.heap.size + 1 + 1) 33 _ (0, 0) _ rfl b7 Tryd.underlying33 rfl (by rw [tyRf.arr]; kernel_rfl)) rfl ⟨?_, A6.out.below.trans (o7.below (by simp; omega))⟩
      have he : (appT t k).1 = ((goneT t n (by omega)).setP n (upK t.P k n)).setC (t.c + 1) HC1.out := by
        unfold appT
        rw [dif_neg HF.out]
        refine TrV.ext' ?_
        show TreeV.mk (t.c + 1) (carryV pairK zeroKey t.c 32 0 t.P k) = TreeV.mk (t.c + 1) ((List.replicate n zeroKey ++ t.P.drop n).set n (upK t.P k n))
        rw [carry_eq t k n hn HB.out HB0.out]
      rw [he]
      rfl
theorem appT_full {t : TrV} (k : K32) (h : t.c = 4294967295) : appT t k = (zT, 2) := by unfold appT; rw [dif_pos h]
theorem appT_some {t : TrV} (k : K32) (h : t.c ≠ 4294967295) : (appT t k).2 = 0 := by unfold appT; rw [dif_neg h]
theorem rApp_r (t : TrV) (k : K32) (w : World) :
    Calls Tryd.prog 14 #[.agg t.cells.toArray, .agg (encK k).toArray] w fun e w' => e = .returned (.tuple #[.agg (appT t k).1.cells.toArray, .int .i64 (appT t k).2]) ∧ Below w.heap.size w w' := by
  by_cases h : t.c = 4294967295
  · rw [appT_full k h]
    exact rApp_full t k w h
  · rw [appT_some k h]
    exact rApp_some t k w h
end Go.Proofs.YtfmidmhbnpincaaDoor
