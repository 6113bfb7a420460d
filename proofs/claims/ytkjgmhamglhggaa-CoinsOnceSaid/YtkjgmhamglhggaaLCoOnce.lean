/- CoinsOnce: the statement's walk. Written by genLCoN.py. -/
import Derived.Test.YtkjgmhamglhggaaCoiY
namespace Go.Proofs.Ytkjgmhamglhggaa
open Go.RowKit
theorem wf_u16r (z : IntV .u16) : 0 ≤ z.1 ∧ z.1 < 65536 := by
  have := z.2
  simp [Lit.wf, IntKind.min, IntKind.max, IntKind.signed, IntKind.bits] at this
  omega
def v64 (z : IntV .u16) : IntV .i64 := ⟨z.1, wf_i64.2 (by have := wf_u16r z; omega)⟩
def o16 (z : IntV .u16) : IntV .i64 × K32 := (v64 z, zeroKey)
def onceS (id : K32) (h : IntV .u32) (zs : List (IntV .u16)) : List CoinV := madeC id h false 0 (zs.map o16)
theorem onceS_len (id : K32) (h : IntV .u32) (zs : List (IntV .u16)) : (onceS id h zs).length = zs.length := by unfold onceS; rw [madeC_len, List.length_map]
theorem once1 (id : K32) (h : IntV .u32) (zs : List (IntV .u16)) (hn : zs.length ≤ 30) (A : Option Addr) (c : Nat) : applyR [] (txIO [] none 0 (zs.map o16) A c).T id h = ((onceS id h zs, []), 0) := by
  rw [apply_made _ id h (.inl rfl) (by show (zs.map o16).length ≤ 1000; rw [List.length_map]; omega)]
  rfl
theorem onceS_rises (id : K32) (h : IntV .u32) (zs : List (IntV .u16)) (hn : zs.length ≤ 30) : RisesK (onceS id h zs) := (apply_back .nil (once1 id h zs hn none 0)).1
theorem once_find (id : K32) (h : IntV .u32) (zs : List (IntV .u16)) (hn : zs.length ≤ 30) (k : Nat) (hk : k ≤ 40) : findK (onceS id h zs) (id, toU32 k) = zs[k]?.map fun z => ⟨(id, toU32 k), o16 z, h, false⟩ := by
  unfold onceS
  rw [find_made id h false (zs.map o16) 0 k (by rw [List.length_map]; omega) (by omega), if_pos (Nat.zero_le _), Nat.sub_zero, List.getElem?_map, Option.map_map]
  rfl
theorem once_at (id : K32) (h : IntV .u32) (zs : List (IntV .u16)) (hn : zs.length ≤ 30) (k : Nat) (hk : k < zs.length) : findK (onceS id h zs) (id, toU32 k) = some ⟨(id, toU32 k), o16 zs[k], h, false⟩ := by
  rw [once_find id h zs hn k (by omega), List.getElem?_eq_getElem hk]
  rfl
theorem once_del (id : K32) (h : IntV .u32) (zs : List (IntV .u16)) (hn : zs.length ≤ 30) (m : Nat) (hm : zs.length = m + 1) : delC CoinV.at_ (onceS id h zs) (id, toU32 m) = onceS id h (zs.take m) := by
  have e : zs = zs.take m ++ [zs[m]'(by omega)] := by
    have := List.take_succ_eq_append_getElem (l := zs) (i := m) (by omega)
    rw [← this, List.take_of_length_le (by omega)]
  have e2 : onceS id h zs = onceS id h (zs.take m) ++ [⟨(id, toU32 m), o16 (zs[m]'(by omega)), h, false⟩] := by
    have hl : ((zs.take m).map o16).length = m := by rw [List.length_map, List.length_take]; omega
    have := made_app id h false (o16 (zs[m]'(by omega))) ((zs.take m).map o16) 0
    rw [hl, Nat.zero_add] at this
    unfold onceS
    rw [← this]
    conv => lhs; rw [e]
    rw [List.map_append]
    rfl
  rw [e2]
  refine del_end (c := ⟨(id, toU32 m), o16 (zs[m]'(by omega)), h, false⟩) ?_
  show findK (onceS id h (zs.take m)) (id, toU32 m) = none
  rw [once_find id h (zs.take m) (by rw [List.length_take]; omega) m (by omega), List.getElem?_eq_none (by rw [List.length_take]; omega)]
  rfl
theorem once2 (id other : K32) (h h2 : IntV .u32) (zs : List (IntV .u16)) (hn : zs.length ≤ 30) (m : Nat) (hm : zs.length = m + 1) (hid : id ≠ zeroKey) (A : Option Addr) (c : Nat) :
    applyR (onceS id h zs) (txIO [(id, toU32 m)] A c [] none 0).T other h2 = ((onceS id h (zs.take m), [⟨(id, toU32 m), o16 (zs[m]'(by omega)), h, false⟩]), 0) := by
  rw [apply_one _ _ other h2 (id, toU32 m) rfl rfl hid, once_at id h zs hn m (by omega)]
  simp only
  rw [once_del id h zs hn m hm]
  rfl
theorem once3 (id third : K32) (h h3 : IntV .u32) (zs : List (IntV .u16)) (hn : zs.length ≤ 30) (m : Nat) (hm : zs.length = m + 1) (hid : id ≠ zeroKey) (A : Option Addr) (c : Nat) :
    applyR (onceS id h (zs.take m)) (txIO [(id, toU32 m)] A c [] none 0).T third h3 = (([], []), 160) := by
  rw [apply_one _ _ third h3 (id, toU32 m) rfl rfl hid, once_find id h (zs.take m) (by rw [List.length_take]; omega) m (by omega), List.getElem?_eq_none (by rw [List.length_take]; omega)]
  rfl
def u1 : IntV .u32 := ⟨1, by decide⟩
def u2 : IntV .u32 := ⟨2, by decide⟩
def u3 : IntV .u32 := ⟨3, by decide⟩
theorem oown_grown {w w' : World} {base : Nat} {e : TypeId} {size n : Nat} {v : Value} {xs : List Value} (h : w.ownsRow base e size v n xs) (hg : w.grownBy w' v.ownBlock) (hB : base ≤ w.heap.size) : Below base w w' := (Below.refl _ _).grown hg hB (own_base h)
theorem oown_keep {w w' : World} {base : Nat} {e : TypeId} {size n : Nat} {v : Value} {xs : List Value} {L : List Nat} (h : w.ownsRow base e size v n xs) (o : Only L w w') (hL : ∀ g ∈ L, g < base) : w'.ownsRow base e size v n xs :=
  ⟨h.1, h.2.imp id fun ⟨g, cap, cur, h1, h2, h3, h4⟩ => ⟨g, cap, cur, h1, h2, (o.block g (fun hm => by have := hL g hm; omega)).trans h3, h4⟩⟩
theorem built_O (t : TypeId) (ht : t = 47) (z : IntV .i64) : Try.prog.built t [(0, .int .i64 z.1)] = some (encIK .i64 (z, zeroKey)).toArray := by
  subst ht
  obtain ⟨z, hz⟩ := z
  kernel_rfl
theorem zcOut : ((Try.prog.info? 47).bind (·.zero)).map (·.cells.size) = some 33 := by kernel_rfl
theorem zBytesOut : (Try.prog.info? 47).map (·.bytes) = some 40 := by kernel_rfl
set_option maxRecDepth 20000 in
set_option maxHeartbeats 4000000 in
theorem conce_many (HAP : ApplyOk) (id other third : K32) (A0 : Option Addr) (c0 : Nat) (zs : List (IntV .u16)) (w : World) (_ : RowIn (enc1 .u16) 1 w w.heap.size A0 c0 zs) (hn : 30 < zs.length) :
    Calls Try.prog 6 #[.agg (encK id).toArray, .agg (encK other).toArray, .agg (encK third).toArray, .slice A0 zs.length c0] w fun e w' => e = .returned (.bool true) ∧ Below w.heap.size w w' := by
  have SH := Lib.hid (fun W => coishown_any HAP W)
  have hd : decide ((30 : Int) < (zs.length : Int)) = true := by simp; omega
  clear hn
  clear HAP
  have H0 := Lib.hid (show Holds w [(w.heap.size + 2, 27, (encK third).toArray), (w.heap.size + 1, 27, (encK other).toArray), (w.heap.size, 27, (encK id).toArray)] (((w.alloc (.cells (encK id).toArray 27)).alloc (.cells (encK other).toArray 27)).alloc (.cells (encK third).toArray 27)) from by
    have := (((Holds.nil w).box 27 (encK id).toArray).box 27 (encK other).toArray).box 27 (encK third).toArray
    simpa only [World.size_alloc, Nat.add_assoc] using this)
  go_enter Try.func6, Try.ntmps6
  go_wp2_with fail
  refine (SH.out _).mono ?_
  rintro e w2 ⟨rfl, b2⟩
  have H2 := Lib.hid (H0.out.call b2)
  go_wp2_with fail
  go_ret
  exact ⟨rfl, H2.out.below⟩
set_option maxRecDepth 20000 in
set_option maxHeartbeats 4000000 in
theorem conce_none (HAP : ApplyOk) (id other third : K32) (A0 : Option Addr) (c0 : Nat) (zs : List (IntV .u16)) (w : World) (_ : RowIn (enc1 .u16) 1 w w.heap.size A0 c0 zs) (hn : zs.length = 0) :
    Calls Try.prog 6 #[.agg (encK id).toArray, .agg (encK other).toArray, .agg (encK third).toArray, .slice A0 zs.length c0] w fun e w' => e = .returned (.bool true) ∧ Below w.heap.size w w' := by
  have SH := Lib.hid (fun W => coishown_any HAP W)
  rw [hn]
  clear hn
  clear HAP
  have H0 := Lib.hid (show Holds w [(w.heap.size + 2, 27, (encK third).toArray), (w.heap.size + 1, 27, (encK other).toArray), (w.heap.size, 27, (encK id).toArray)] (((w.alloc (.cells (encK id).toArray 27)).alloc (.cells (encK other).toArray 27)).alloc (.cells (encK third).toArray 27)) from by
    have := (((Holds.nil w).box 27 (encK id).toArray).box 27 (encK other).toArray).box 27 (encK third).toArray
    simpa only [World.size_alloc, Nat.add_assoc] using this)
  go_enter Try.func6, Try.ntmps6
  go_wp2_with fail
  refine (SH.out _).mono ?_
  rintro e w2 ⟨rfl, b2⟩
  have H2 := Lib.hid (H0.out.call b2)
  go_wp2_with fail
  go_ret
  exact ⟨rfl, H2.out.below⟩
set_option maxRecDepth 20000 in
set_option maxHeartbeats 4000000 in
theorem conce_zero (HAP : ApplyOk) (id other third : K32) (A0 : Option Addr) (c0 : Nat) (zs : List (IntV .u16)) (w : World) (_ : RowIn (enc1 .u16) 1 w w.heap.size A0 c0 zs) (hn : zs.length ≤ 30) (h0 : 0 < zs.length) (hid : decide (id = zeroKey) = true) :
    Calls Try.prog 6 #[.agg (encK id).toArray, .agg (encK other).toArray, .agg (encK third).toArray, .slice A0 zs.length c0] w fun e w' => e = .returned (.bool true) ∧ Below w.heap.size w w' := by
  have SH := Lib.hid (fun W => coishown_any HAP W)
  have HZ := Lib.hid hid
  have hd : decide ((30 : Int) < (zs.length : Int)) = false := by simp; omega
  have hd2 : ((zs.length : Int) == 0) = false := beq_eq_false_iff_ne.mpr (by omega)
  clear hn h0 hid
  clear HAP
  have H0 := Lib.hid (show Holds w [(w.heap.size + 2, 27, (encK third).toArray), (w.heap.size + 1, 27, (encK other).toArray), (w.heap.size, 27, (encK id).toArray)] (((w.alloc (.cells (encK id).toArray 27)).alloc (.cells (encK other).toArray 27)).alloc (.cells (encK third).toArray 27)) from by
    have := (((Holds.nil w).box 27 (encK id).toArray).box 27 (encK other).toArray).box 27 (encK third).toArray
    simpa only [World.size_alloc, Nat.add_assoc] using this)
  go_enter Try.func6, Try.ntmps6
  go_wp2_with (first
      | ((with_reducible refine at_loadg 4 ?_); refine tyKc.wpList_load (by rfl) (.tmp 4) rfl (w.heap.size) (0) rfl (id) (RowC.of_blk (H0.out.at (x := (w.heap.size, 27, (encK id).toArray)) (by simp))) ?_)
      | ((with_reducible refine at_build 38 ?_); refine wpList_unguard (by rfl) ?_; refine wpList_built rfl 27 #[] rfl (encK zeroKey).toArray (by kernel_rfl) ?_)
      | ((with_reducible refine at_eqlg 37 38 ?_); refine wpList_eql_rowg (by rfl) 27 27 (.tmp 37) (.tmp 38) rfl (encK id).toArray (encK zeroKey).toArray rfl rfl (by kernel_rfl) true (fun V => (eqKy_run _ _ V).trans (by rw [HZ.out])) ?_; simp only [Act.put, List.setIfInBounds_toArray, List.set_cons_succ, List.set_cons_zero]))
  refine (SH.out _).mono ?_
  rintro e w2 ⟨rfl, b2⟩
  have H2 := Lib.hid (H0.out.call b2)
  go_wp2_with fail
  go_ret
  exact ⟨rfl, H2.out.below⟩
set_option maxRecDepth 20000 in
set_option maxHeartbeats 4000000 in
theorem conce_main (HAP : ApplyOk) (HFI : FindOk) (id other third : K32) (A0 : Option Addr) (c0 : Nat) (zs : List (IntV .u16)) (w : World) (hz : RowIn (enc1 .u16) 1 w w.heap.size A0 c0 zs) (hn : zs.length ≤ 30) (h0 : 0 < zs.length) (hid : decide (id = zeroKey) = false) :
    Calls Try.prog 6 #[.agg (encK id).toArray, .agg (encK other).toArray, .agg (encK third).toArray, .slice A0 zs.length c0] w fun e w' => e = .returned (.bool true) ∧ Below w.heap.size w w' := by
  have SH := Lib.hid (fun W => coishown_any HAP W)
  obtain ⟨Z0, hZ0, hz0, hzs0, hzn0⟩ := zero_of zeroCo_ok zeroC_size
  have HZS := Lib.hid hzs0
  clear hZ0 hzs0
  have HP := Lib.hid HAP
  have HZ := Lib.hid hid
  have HF := Lib.hid HFI
  have HI := Lib.hid (show id ≠ zeroKey from of_decide_eq_false hid)
  have hd : decide ((30 : Int) < (zs.length : Int)) = false := by simp; omega
  have hd2 : ((zs.length : Int) == 0) = false := beq_eq_false_iff_ne.mpr (by omega)
  obtain ⟨m, hm⟩ : ∃ m, zs.length = m + 1 := ⟨zs.length - 1, by omega⟩
  have HM := Lib.hid hm
  have HN := Lib.hid hn
  have HR := Lib.hid hz
  clear HAP HFI hz hid hm
  have H0 := Lib.hid (show Holds w [(w.heap.size + 2, 27, (encK third).toArray), (w.heap.size + 1, 27, (encK other).toArray), (w.heap.size, 27, (encK id).toArray)] (((w.alloc (.cells (encK id).toArray 27)).alloc (.cells (encK other).toArray 27)).alloc (.cells (encK third).toArray 27)) from by
    have := (((Holds.nil w).box 27 (encK id).toArray).box 27 (encK other).toArray).box 27 (encK third).toArray
    simpa only [World.size_alloc, Nat.add_assoc] using this)
  go_enter Try.func6, Try.ntmps6
  go_wp2_with (first
      | ((with_reducible refine at_loadg 4 ?_); refine tyKc.wpList_load (by rfl) (.tmp 4) rfl (w.heap.size) (0) rfl (id) (RowC.of_blk (H0.out.at (x := (w.heap.size, 27, (encK id).toArray)) (by simp))) ?_)
      | ((with_reducible refine at_build 38 ?_); refine wpList_unguard (by rfl) ?_; refine wpList_built rfl 27 #[] rfl (encK zeroKey).toArray (by kernel_rfl) ?_)
      | ((with_reducible refine at_eqlg 37 38 ?_); refine wpList_eql_rowg (by rfl) 27 27 (.tmp 37) (.tmp 38) rfl (encK id).toArray (encK zeroKey).toArray rfl rfl (by kernel_rfl) false (fun V => (eqKy_run _ _ V).trans (by rw [HZ.out])) ?_; simp only [Act.put, List.setIfInBounds_toArray, List.set_cons_succ, List.set_cons_zero]))
  refine (SH.out _).mono ?_
  rintro e w2 ⟨rfl, b2⟩
  have H2 := Lib.hid (H0.out.call b2)
  clear b2 H0 hd hd2
  go_wp2_with (first
      | ((with_reducible refine at_build 46 ?_); refine wpList_built rfl 30 #[] rfl (txIO [] none 0 [] none 0).cells.toArray (by kernel_rfl) ?_)
      | ((with_reducible refine at_store 9 46 ?_); refine tyTx.wpList_store rfl (.tmp 9) (.tmp 46) rfl rfl _ (txIO [] none 0 [] none 0) rfl rfl 30 _ (Blk.new w2 30 _) rfl ?_; intro w3 o3 b3
         have H3 := Lib.hid (show Holds w ((w2.heap.size, 30, (txIO [] none 0 ((zs.take 0).map o16) none 0).cells.toArray) :: [(w.heap.size + 2, 27, (encK third).toArray), (w.heap.size + 1, 27, (encK other).toArray), (w.heap.size, 27, (encK id).toArray)]) w3 from H2.out.put o3 b3)
         have G3 := Lib.hid (show w2.heap.size + 1 ≤ w3.heap.size ∧ w.heap.size + 2 < w2.heap.size from ⟨by rw [o3.size]; simp, by have := H2.out.lt (x := (w.heap.size + 2, 27, (encK third).toArray)) (by simp); simpa using this⟩)
         clear o3 b3 H2))
  obtain ⟨g9, hg9⟩ : ∃ g, w2.heap.size = g := ⟨_, rfl⟩
  rw [hg9] at H3 G3 ⊢
  clear hg9
  have O3 := Lib.hid (show World.ownsRow w3 (g9 + 1) 47 33 (.slice none ((zs.take 0).map o16).length 0) ((zs.take 0).map o16).length (cellsOf (encIK .i64) ((zs.take 0).map o16)) from ⟨rfl, .inl ⟨rfl, rfl⟩⟩)
  go_loopw [10] (fun si wr => ∃ (j : Nat) (A : Option Addr) (c : Nat), si = .int .i64 j ∧ j ≤ zs.length ∧ Hid (Holds w ((g9, 30, (txIO [] none 0 ((zs.take j).map o16) A c).cells.toArray) :: [(w.heap.size + 2, 27, (encK third).toArray), (w.heap.size + 1, 27, (encK other).toArray), (w.heap.size, 27, (encK id).toArray)]) wr) ∧ Hid (World.ownsRow wr (g9 + 1) 47 33 (.slice A ((zs.take j).map o16).length c) ((zs.take j).map o16).length (cellsOf (encIK .i64) ((zs.take j).map o16)))) (fun si _ => zs.length - (intOf si).toNat)
  case atStart => exact ⟨0, none, 0, rfl, by omega, H3, O3⟩
  case round =>
    clear H3 O3
    obtain ⟨j, A, c, rfl, hj, H4, O4⟩ := hrel
    by_cases hlt : j < zs.length
    · have hd : decide ((j : Int) < (zs.length : Int)) = true := by simp; omega
      obtain ⟨g, o, hA, hg, hc⟩ := (HR.out.below H4.out.below).at (enc1_len _) hlt
      obtain ⟨x, hx⟩ : ∃ x, zs[j]'hlt = x := ⟨_, rfl⟩
      rw [hx] at hc
      subst hA
      have HG := Lib.hid hg
      have HX := Lib.hid hc
      have HTS := Lib.hid (show (zs.take j).map o16 ++ [o16 x] = (zs.take (j + 1)).map o16 by rw [List.take_succ_eq_append_getElem hlt, hx, List.map_append]; rfl)
      have HLL := Lib.hid (show ((zs.take j).map o16).length ≤ 1000 by have := HN.out; rw [List.length_map, List.length_take]; omega)
      have hi0 : (0 : Int) ≤ (j : Int) := by omega
      have hi1 : (j : Int) < (zs.length : Int) := by omega
      have hx0 := wf_u16r x
      have hcv : IntKind.i64.wrap x.1 = x.1 := by rw [IntKind.wrap_i64]; omega
      have HJ := Lib.hid (show j + 1 ≤ zs.length by omega)
      clear hx hc hg
      go_wp2_with fail
      have AH := Lib.hid (show Holds w ((g9, 30, (txIO [] none 0 ((zs.take j).map o16) A c).cells.toArray) :: [(w.heap.size + 2, 27, (encK third).toArray), (w.heap.size + 1, 27, (encK other).toArray), (w.heap.size, 27, (encK id).toArray)]) wr.drew from ⟨H4.out.below.drew, H4.out.blks⟩)
      have AO := Lib.hid (show World.ownsRow wr.drew (g9 + 1) 47 33 (.slice A ((zs.take j).map o16).length c) ((zs.take j).map o16).length (cellsOf (encIK .i64) ((zs.take j).map o16)) from O4.out)
      have AX := Lib.hid (show RowC wr.drew g (o + j * 1) (enc1 .u16 x) from HX.out)
      have AG := Lib.hid (show g9 < wr.drew.heap.size from H4.out.lt (x := (g9, 30, (txIO [] none 0 ((zs.take j).map o16) A c).cells.toArray)) (by simp))
      clear H4 O4 HX
      refine wp_region_held_drew (S := fun W => RowC W g (o + j * 1) (enc1 .u16 x)) (by kernel_rfl) AX.out ?_
      intro hS
      refine wpAnyH_take (i := 0) (v := .pointer (some ⟨g9, 2, none⟩)) rfl (by kernel_rfl) (by kernel_rfl) (by kernel_rfl) (fun _ _ _ h => h) (Or.inl ⟨by rfl, fun W _ => by go_simp; try with_reducible rfl⟩) hS ?_
      simp only [Act.put, List.getElem_toArray, List.getElem_cons_zero, List.setIfInBounds_toArray, List.set_cons_succ, List.set_cons_zero]
      refine wpAnyH_take (i := 2) (v := .slice (some ⟨g, o, none⟩) zs.length c0) rfl (by kernel_rfl) (by kernel_rfl) (by kernel_rfl) (fun _ _ _ h => h) (Or.inl ⟨by rfl, fun W _ => by go_simp; try with_reducible rfl⟩) hS ?_
      simp only [Act.put, List.getElem_toArray, List.getElem_cons_zero, List.getElem_cons_succ, List.setIfInBounds_toArray, List.set_cons_succ, List.set_cons_zero]
      refine wpAnyH_take (i := 3) (v := .int .i64 j) rfl (by kernel_rfl) (by kernel_rfl) (by kernel_rfl) (fun _ _ _ h => h) (Or.inl ⟨by rfl, fun W _ => by go_simp; try with_reducible rfl⟩) hS ?_
      simp only [Act.put, List.getElem_toArray, List.getElem_cons_zero, List.getElem_cons_succ, List.setIfInBounds_toArray, List.set_cons_succ, List.set_cons_zero]
      refine wpAnyH_take (i := 4) (v := .pointer (some ⟨g, o + j * 1, none⟩)) rfl (by kernel_rfl) (by kernel_rfl) (by kernel_rfl) (fun _ _ _ h => h) (Or.inl ⟨by rfl, fun W _ => by go_simp; try with_reducible rfl⟩) hS ?_
      simp only [Act.put, List.getElem_toArray, List.getElem_cons_zero, List.getElem_cons_succ, List.setIfInBounds_toArray, List.set_cons_succ, List.set_cons_zero]
      refine wpAnyH_take (i := 5) (v := .int .u16 x.1) rfl (by kernel_rfl) (by kernel_rfl) (by kernel_rfl) (fun _ _ _ h => h) (yieldsIf_cell (by rfl) 64 (.tmp 57) rfl ⟨g, o + j * 1, none⟩ rfl _ Try.isAgg64 (fun _ h => h.head)) hS ?_
      simp only [Act.put, List.getElem_toArray, List.getElem_cons_zero, List.getElem_cons_succ, List.setIfInBounds_toArray, List.set_cons_succ, List.set_cons_zero]
      refine wpAnyH_take (i := 6) (v := .int .i64 x.1) rfl (by kernel_rfl) (by kernel_rfl) (by kernel_rfl) (fun _ _ _ h => h) (Or.inl ⟨by rfl, fun W _ => by go_simp; try with_reducible rfl⟩) hS ?_
      simp only [Act.put, List.getElem_toArray, List.getElem_cons_zero, List.getElem_cons_succ, List.setIfInBounds_toArray, List.set_cons_succ, List.set_cons_zero]
      refine wpAnyH_take (i := 7) (v := .agg (encIK .i64 (o16 x)).toArray) rfl (by kernel_rfl) (by kernel_rfl) (by kernel_rfl) (fun _ _ _ h => h) (yieldsIf_build (by rfl) 47 #[(0, .tmp 59)] rfl _ ((congrArg (Try.prog.built 47) (show _ = [(0, Value.int .i64 (v64 x).1)] by kernel_rfl)).trans (built_O _ rfl (v64 x)))) hS ?_
      simp only [Act.put, List.getElem_toArray, List.getElem_cons_zero, List.getElem_cons_succ, List.setIfInBounds_toArray, List.set_cons_succ, List.set_cons_zero]
      have HG2 := Lib.hid (show g < g9 from by have := HG.out; have := G3.out; omega)
      refine wpAnyH_ready (rs := [1, 8]) (by kernel_rfl) (by simp) ?_
      refine AllReadyH.cons rfl (fun Kq hK => ?_) (AllReadyH.cons rfl (fun Kq hK => ?_) AllReadyH.nil)
      · refine step_load_one (by rfl) 25 (.tmp 53) rfl ⟨g9, 2, none⟩ rfl (.slice A ((zs.take j).map o16).length c) Try.isAgg25 (TxA.c2 (RowC.of_blk (AH.out.at (x := (g9, 30, (txIO [] none 0 ((zs.take j).map o16) A c).cells.toArray)) (by simp)))) ?_
        refine hK.out _ _ hS (fun hS => ?_)
        clear hK Kq
        try simp only [Act.put, List.getElem_toArray, List.getElem_cons_zero, List.getElem_cons_succ, List.setIfInBounds_toArray, List.set_cons_succ, List.set_cons_zero]
        refine wpAnyH_ready (rs := [8]) (by kernel_rfl) (by simp) ?_
        refine AllReadyH.cons rfl (fun Kq hK => ?_) AllReadyH.nil
        refine tyOut.step_build rfl zbOut 1 _ rfl [o16 x] rfl (by omega) (by omega) (by kernel_rfl) ?_
        have BH := Lib.hid (show Holds w ((g9, 30, (txIO [] none 0 ((zs.take j).map o16) A c).cells.toArray) :: [(w.heap.size + 2, 27, (encK third).toArray), (w.heap.size + 1, 27, (encK other).toArray), (w.heap.size, 27, (encK id).toArray)]) (wr.drew.alloc (.cells (cellsOf (encIK .i64) [o16 x]).toArray 47)) from (AH.out.alloc (.cells (cellsOf (encIK .i64) [o16 x]).toArray 47)))
        have BO := Lib.hid (show World.ownsRow (wr.drew.alloc (.cells (cellsOf (encIK .i64) [o16 x]).toArray 47)) (g9 + 1) 47 33 (.slice A ((zs.take j).map o16).length c) ((zs.take j).map o16).length (cellsOf (encIK .i64) ((zs.take j).map o16)) from AO.out.alloc _)
        have BK := Lib.hid (show Blk (wr.drew.alloc (.cells (cellsOf (encIK .i64) [o16 x]).toArray 47)) wr.heap.size 47 (cellsOf (encIK .i64) [o16 x]).toArray from Blk.new wr 47 _)
        have BX := Lib.hid (show RowC (wr.drew.alloc (.cells (cellsOf (encIK .i64) [o16 x]).toArray 47)) g (o + j * 1) (enc1 .u16 x) from AX.out.below ((Below.refl _ _).alloc (Nat.le_refl _) _) (Nat.lt_of_lt_of_le HG.out (by have := AH.out.below.size; omega)))
        have BG := Lib.hid (show g9 < (wr.drew.alloc (.cells (cellsOf (encIK .i64) [o16 x]).toArray 47)).heap.size from by have := AG.out; simp at this ⊢; omega)
        refine hK.out _ _ BX.out (fun hS => ?_)
        clear hK Kq
        try simp only [Act.put, List.getElem_toArray, List.getElem_cons_zero, List.getElem_cons_succ, List.setIfInBounds_toArray, List.set_cons_succ, List.set_cons_zero]
        refine wpAnyH_ready (rs := [9]) (by kernel_rfl) (by simp) ?_
        refine AllReadyH.cons rfl (fun Kq hK => ?_) AllReadyH.nil
        refine tyOut.step_append rfl zcOut 40 zBytesOut (by omega) (.tmp 54) (.tmp 61) rfl (g9 + 1) _ ((zs.take j).map o16) rfl BO.out _ _ 1 [o16 x] rfl (rowIn_blk BK.out (by simp) (by decide)) (by have := HLL.out; simp; omega) (by have := BG.out; simp at this ⊢; omega) ?_
        intro v5 w5 p5 g5
        rw [HTS.out] at p5
        have E5 := oown_grown BO.out g5 (by have := BG.out; simp at this ⊢; omega)
        have H5 := Lib.hid (show Holds w ((g9, 30, (txIO [] none 0 ((zs.take j).map o16) A c).cells.toArray) :: [(w.heap.size + 2, 27, (encK third).toArray), (w.heap.size + 1, 27, (encK other).toArray), (w.heap.size, 27, (encK id).toArray)]) w5 from BH.out.low E5 (by have := G3.out; omega) (by have := G3.out; simp; omega))
        have X5 := Lib.hid (BX.out.below E5 (by have := HG2.out; omega))
        obtain ⟨A5, c5, rfl, _⟩ := RowIn.of_own (encIK_len _) p5
        have O5 := Lib.hid p5
        refine hK.out _ _ X5.out (fun hS => ?_)
        clear hK Kq p5 g5 E5 BO BH BX BK
        try simp only [Act.put, List.getElem_toArray, List.getElem_cons_zero, List.getElem_cons_succ, List.setIfInBounds_toArray, List.set_cons_succ, List.set_cons_zero]
        refine wpAnyH_take (i := 10) (v := .pointer (some ⟨g9, 2, none⟩)) rfl (by kernel_rfl) (by kernel_rfl) (by kernel_rfl) (fun _ _ _ h => h) (Or.inl ⟨by rfl, fun W _ => by go_simp; try with_reducible rfl⟩) hS ?_
        simp only [Act.put, List.getElem_toArray, List.getElem_cons_zero, List.getElem_cons_succ, List.setIfInBounds_toArray, List.set_cons_succ, List.set_cons_zero]
        refine wpAnyH_ready (rs := [11]) (by kernel_rfl) (by simp) ?_
        refine AllReadyH.cons rfl (fun Kq hK => ?_) AllReadyH.nil
        refine step_store_cell rfl 25 (.tmp 63) (.tmp 62) rfl rfl g9 2 (.slice A5 ((zs.take (j + 1)).map o16).length c5) rfl rfl rfl 30 (txIO [] none 0 ((zs.take j).map o16) A c).cells.toArray (H5.out.at (x := (g9, 30, (txIO [] none 0 ((zs.take j).map o16) A c).cells.toArray)) (by simp)) (by rw [tyTx.arr]; omega) (by kernel_rfl) ?_
        intro w6 o6 b6
        have H6 := Lib.hid (H5.out.turn o6 (cs' := (txIO [] none 0 ((zs.take (j + 1)).map o16) A5 c5).cells.toArray) (txIO_outs [] none A A5 0 c c5 ((zs.take j).map o16) ((zs.take (j + 1)).map o16) ▸ b6) (by have := G3.out; omega) (by have := G3.out; simp; omega))
        have O6 := Lib.hid (oown_keep O5.out o6 (by simp))
        refine hK.out _ _ (X5.out.cOnly o6 (by have := HG2.out; simp; omega)) (fun _ => ?_)
        clear hK Kq hS o6 b6 H5 O5 X5
        refine wpAnyH_done (by kernel_rfl) ?_ _
        go_wp2_with fail
        go_roundw
        case rel => exact ⟨j + 1, A5, c5, by go_num, HJ.out, H6, O6⟩
        case measure => simp [intOf]; omega
      · refine tyOut.step_build rfl zbOut 1 _ rfl [o16 x] rfl (by omega) (by omega) (by kernel_rfl) ?_
        have BH := Lib.hid (show Holds w ((g9, 30, (txIO [] none 0 ((zs.take j).map o16) A c).cells.toArray) :: [(w.heap.size + 2, 27, (encK third).toArray), (w.heap.size + 1, 27, (encK other).toArray), (w.heap.size, 27, (encK id).toArray)]) (wr.alloc (.cells (cellsOf (encIK .i64) [o16 x]).toArray 47)).drew from (AH.out.alloc (.cells (cellsOf (encIK .i64) [o16 x]).toArray 47)))
        have BO := Lib.hid (show World.ownsRow (wr.alloc (.cells (cellsOf (encIK .i64) [o16 x]).toArray 47)).drew (g9 + 1) 47 33 (.slice A ((zs.take j).map o16).length c) ((zs.take j).map o16).length (cellsOf (encIK .i64) ((zs.take j).map o16)) from AO.out.alloc _)
        have BK := Lib.hid (show Blk (wr.alloc (.cells (cellsOf (encIK .i64) [o16 x]).toArray 47)).drew wr.heap.size 47 (cellsOf (encIK .i64) [o16 x]).toArray from Blk.new wr 47 _)
        have BX := Lib.hid (show RowC (wr.alloc (.cells (cellsOf (encIK .i64) [o16 x]).toArray 47)).drew g (o + j * 1) (enc1 .u16 x) from AX.out.below ((Below.refl _ _).alloc (Nat.le_refl _) _) (Nat.lt_of_lt_of_le HG.out (by have := AH.out.below.size; omega)))
        have BG := Lib.hid (show g9 < (wr.alloc (.cells (cellsOf (encIK .i64) [o16 x]).toArray 47)).drew.heap.size from by have := AG.out; simp at this ⊢; omega)
        refine hK.out _ _ BX.out (fun hS => ?_)
        clear hK Kq
        try simp only [Act.put, List.getElem_toArray, List.getElem_cons_zero, List.getElem_cons_succ, List.setIfInBounds_toArray, List.set_cons_succ, List.set_cons_zero]
        refine wpAnyH_ready (rs := [1]) (by kernel_rfl) (by simp) ?_
        refine AllReadyH.cons rfl (fun Kq hK => ?_) AllReadyH.nil
        refine step_load_one (by rfl) 25 (.tmp 53) rfl ⟨g9, 2, none⟩ rfl (.slice A ((zs.take j).map o16).length c) Try.isAgg25 (TxA.c2 (RowC.of_blk (BH.out.at (x := (g9, 30, (txIO [] none 0 ((zs.take j).map o16) A c).cells.toArray)) (by simp)))) ?_
        refine hK.out _ _ hS (fun hS => ?_)
        clear hK Kq
        try simp only [Act.put, List.getElem_toArray, List.getElem_cons_zero, List.getElem_cons_succ, List.setIfInBounds_toArray, List.set_cons_succ, List.set_cons_zero]
        refine wpAnyH_ready (rs := [9]) (by kernel_rfl) (by simp) ?_
        refine AllReadyH.cons rfl (fun Kq hK => ?_) AllReadyH.nil
        refine tyOut.step_append rfl zcOut 40 zBytesOut (by omega) (.tmp 54) (.tmp 61) rfl (g9 + 1) _ ((zs.take j).map o16) rfl BO.out _ _ 1 [o16 x] rfl (rowIn_blk BK.out (by simp) (by decide)) (by have := HLL.out; simp; omega) (by have := BG.out; simp at this ⊢; omega) ?_
        intro v5 w5 p5 g5
        rw [HTS.out] at p5
        have E5 := oown_grown BO.out g5 (by have := BG.out; simp at this ⊢; omega)
        have H5 := Lib.hid (show Holds w ((g9, 30, (txIO [] none 0 ((zs.take j).map o16) A c).cells.toArray) :: [(w.heap.size + 2, 27, (encK third).toArray), (w.heap.size + 1, 27, (encK other).toArray), (w.heap.size, 27, (encK id).toArray)]) w5 from BH.out.low E5 (by have := G3.out; omega) (by have := G3.out; simp; omega))
        have X5 := Lib.hid (BX.out.below E5 (by have := HG2.out; omega))
        obtain ⟨A5, c5, rfl, _⟩ := RowIn.of_own (encIK_len _) p5
        have O5 := Lib.hid p5
        refine hK.out _ _ X5.out (fun hS => ?_)
        clear hK Kq p5 g5 E5 BO BH BX BK
        try simp only [Act.put, List.getElem_toArray, List.getElem_cons_zero, List.getElem_cons_succ, List.setIfInBounds_toArray, List.set_cons_succ, List.set_cons_zero]
        refine wpAnyH_take (i := 10) (v := .pointer (some ⟨g9, 2, none⟩)) rfl (by kernel_rfl) (by kernel_rfl) (by kernel_rfl) (fun _ _ _ h => h) (Or.inl ⟨by rfl, fun W _ => by go_simp; try with_reducible rfl⟩) hS ?_
        simp only [Act.put, List.getElem_toArray, List.getElem_cons_zero, List.getElem_cons_succ, List.setIfInBounds_toArray, List.set_cons_succ, List.set_cons_zero]
        refine wpAnyH_ready (rs := [11]) (by kernel_rfl) (by simp) ?_
        refine AllReadyH.cons rfl (fun Kq hK => ?_) AllReadyH.nil
        refine step_store_cell rfl 25 (.tmp 63) (.tmp 62) rfl rfl g9 2 (.slice A5 ((zs.take (j + 1)).map o16).length c5) rfl rfl rfl 30 (txIO [] none 0 ((zs.take j).map o16) A c).cells.toArray (H5.out.at (x := (g9, 30, (txIO [] none 0 ((zs.take j).map o16) A c).cells.toArray)) (by simp)) (by rw [tyTx.arr]; omega) (by kernel_rfl) ?_
        intro w6 o6 b6
        have H6 := Lib.hid (H5.out.turn o6 (cs' := (txIO [] none 0 ((zs.take (j + 1)).map o16) A5 c5).cells.toArray) (txIO_outs [] none A A5 0 c c5 ((zs.take j).map o16) ((zs.take (j + 1)).map o16) ▸ b6) (by have := G3.out; omega) (by have := G3.out; simp; omega))
        have O6 := Lib.hid (oown_keep O5.out o6 (by simp))
        refine hK.out _ _ (X5.out.cOnly o6 (by have := HG2.out; simp; omega)) (fun _ => ?_)
        clear hK Kq hS o6 b6 H5 O5 X5
        refine wpAnyH_done (by kernel_rfl) ?_ _
        go_wp2_with fail
        go_roundw
        case rel => exact ⟨j + 1, A5, c5, by go_num, HJ.out, H6, O6⟩
        case measure => simp [intOf]; omega
    · have hd : decide ((j : Int) < (zs.length : Int)) = false := by simp; omega
      obtain rfl : j = zs.length := by omega
      have H5 := Lib.hid (show Holds w ((g9, 30, (txIO [] none 0 (zs.map o16) A c).cells.toArray) :: [(w.heap.size + 2, 27, (encK third).toArray), (w.heap.size + 1, 27, (encK other).toArray), (w.heap.size, 27, (encK id).toArray)]) wr from by have := H4.out; rwa [List.take_of_length_le (Nat.le_refl _)] at this)
      have O5 := Lib.hid (show RowIn (encIK .i64) 33 wr wr.heap.size A c (zs.map o16) from by
        have := O4.out
        rw [List.take_of_length_le (Nat.le_refl _)] at this
        obtain ⟨A', c', e, r⟩ := RowIn.of_own (encIK_len _) this
        cases e
        exact r)
      clear H4 O4 hj
      go_wp2_with (first
          | ((with_reducible refine at_load 9 ?_); refine tyTx.wpList_load rfl (.tmp 9) rfl (g9) (0) rfl (txIO [] none 0 (zs.map o16) A c) (RowC.of_blk (H5.out.at (x := (g9, 30, (txIO [] none 0 (zs.map o16) A c).cells.toArray)) (by simp))) ?_)
          | ((with_reducible refine at_load 4 ?_); refine tyKc.wpList_load rfl (.tmp 4) rfl (w.heap.size) (0) rfl (id) (RowC.of_blk (H5.out.at (x := (w.heap.size, 27, (encK id).toArray)) (by simp))) ?_))
      refine (HP.out (txIO [] none 0 (zs.map o16) A c) id u1 none 0 [] _ (txIO_in (RowIn.nil (Nat.zero_le _)) O5.out) (RowIn.nil (Nat.zero_le _)) (by decide) (show ([] : List PtV).length ≤ 300 by decide) (show (zs.map o16).length ≤ 300 by have := HN.out; rw [List.length_map]; omega) .nil).mono ?_
      rw [once1 id u1 zs HN.out A c]
      rintro e w6 ⟨A1, c1, A2, c2, rfl, r1, _, b6⟩
      obtain ⟨S, hS⟩ : ∃ S, onceS id u1 zs = S := ⟨_, rfl⟩
      simp only [hS] at r1 ⊢
      have HS := Lib.hid hS
      have HSL := Lib.hid (show S.length = zs.length by rw [← hS, onceS_len])
      have R6 := Lib.hid r1
      have H6 := Lib.hid (H5.out.call b6).drop
      have hne : ((S.length : Int) != (zs.length : Int)) = false := by rw [HSL.out]; simp
      have hm2 : (zs.length : Int) - 1 = (m : Int) := by have := HM.out; omega
      have hmw : IntKind.i64.wrap (m : Int) = (m : Int) := by have := HM.out; have := HN.out; rw [IntKind.wrap_i64]; omega
      have hmc : (m : Int) % 4294967296 = (m : Int) := by have := HM.out; have := HN.out; omega
      have HV := Lib.hid (show (m : Int) = (toU32 m).1 from (toU32_val (by have := HM.out; have := HN.out; omega)).symm)
      clear r1 b6 H5 O5 hd hS
      go_wp2_with (first
          | ((with_reducible refine at_load 4 ?_); refine tyKc.wpList_load rfl (.tmp 4) rfl (w.heap.size) (0) rfl (id) (RowC.of_blk (H6.out.at (x := (w.heap.size, 27, (encK id).toArray)) (by simp))) ?_)
          | ((with_reducible refine at_build 85 ?_); refine wpList_built rfl 32 #[(0, .tmp 80), (1, .tmp 84)] rfl (encKI .u32 (id, toU32 m)).toArray ((congrArg (Try.prog.built 32) ((show _ = [(0, Value.agg (encK id).toArray), (1, Value.int .u32 ((m : Nat) : Int))] by kernel_rfl).trans (congrArg (fun z => [(0, Value.agg (encK id).toArray), (1, Value.int .u32 z)]) HV.out))).trans (cbuilt_KI _ rfl id (toU32 m))) ?_)
          | ((with_reducible refine at_buildSlice 86 ?_); refine tyPt.wpList_build rfl zbPt 1 _ rfl [(id, toU32 m)] rfl (by omega) (by omega) (by kernel_rfl) ?_)
          | ((with_reducible refine at_build 87 ?_); refine wpList_built rfl 30 #[(1, .tmp 86)] rfl (txIO [(id, toU32 m)] (some ⟨w6.heap.size, 0, none⟩) 1 [] none 0).cells.toArray (by kernel_rfl) ?_)
          | ((with_reducible refine at_store 14 87 ?_); refine tyTx.wpList_store rfl (.tmp 14) (.tmp 87) rfl rfl _ (txIO [(id, toU32 m)] (some ⟨w6.heap.size, 0, none⟩) 1 [] none 0) rfl rfl 30 _ (blk_new (g := w6.heap.size + 1) 30 _ (by simp)) rfl ?_; intro w7 o7 b7
             have H7 := Lib.hid (show Holds w ((w6.heap.size + 1, 30, (txIO [(id, toU32 m)] (some ⟨w6.heap.size, 0, none⟩) 1 [] none 0).cells.toArray) :: (w6.heap.size, 32, (cellsOf (encKI .u32) [(id, toU32 m)]).toArray) :: [(w.heap.size + 2, 27, (encK third).toArray), (w.heap.size + 1, 27, (encK other).toArray), (w.heap.size, 27, (encK id).toArray)]) w7 from by have := (H6.out.box 32 (cellsOf (encKI .u32) [(id, toU32 m)]).toArray).put (t := 30) (cs := (txIO [(id, toU32 m)] (some ⟨w6.heap.size, 0, none⟩) 1 [] none 0).cells.toArray) (W' := w7) (by simpa using o7) (by simpa using b7); simpa using this)
             have R7 := Lib.hid (show RowIn encC 68 w7 w7.heap.size A1 c1 S from ((R6.out.below (((Below.refl _ _).alloc (Nat.le_refl _) _).alloc (by simp) _)).below (o7.below (B := w6.heap.size) (by simp))).more (by rw [o7.size]; simp; omega))
             clear o7 b7 H6 R6)
          | ((with_reducible refine at_load 14 ?_); refine tyTx.wpList_load rfl (.tmp 14) rfl (w6.heap.size + 1) (0) rfl (txIO [(id, toU32 m)] (some ⟨w6.heap.size, 0, none⟩) 1 [] none 0) (RowC.of_blk (H7.out.at (x := (w6.heap.size + 1, 30, (txIO [(id, toU32 m)] (some ⟨w6.heap.size, 0, none⟩) 1 [] none 0).cells.toArray)) (by simp))) ?_)
          | ((with_reducible refine at_load 5 ?_); refine tyKc.wpList_load rfl (.tmp 5) rfl (w.heap.size + 1) (0) rfl (other) (RowC.of_blk (H7.out.at (x := (w.heap.size + 1, 27, (encK other).toArray)) (by simp))) ?_))
      refine (HP.out (txIO [(id, toU32 m)] (some ⟨w6.heap.size, 0, none⟩) 1 [] none 0) other u2 A1 c1 S _ (txIO_in (pt_row (l := [(id, toU32 m)]) (m := []) (H7.out.at (x := (w6.heap.size, 32, (cellsOf (encKI .u32) [(id, toU32 m)]).toArray)) (by simp)) (by simp) (by decide)) (RowIn.nil (Nat.zero_le _))) R7.out (by have := HN.out; have := HSL.out; omega) (show ([(id, toU32 m)] : List PtV).length ≤ 300 by simp) (show ([] : List (IntV .i64 × K32)).length ≤ 300 by decide) (HS.out ▸ onceS_rises id u1 zs HN.out)).mono ?_
      rw [← HS.out, once2 id other u1 u2 zs HN.out m HM.out HI.out, HS.out]
      rintro e w8 ⟨A3, c3, A4, c4, rfl, r3, r4, b8⟩
      obtain ⟨U, hU⟩ : ∃ U, onceS id u1 (zs.take m) = U := ⟨_, rfl⟩
      have HM4 := Lib.hid (show m < zs.length by have := HM.out; omega)
      obtain ⟨cl, hcl⟩ : ∃ cl : CoinV, (⟨(id, toU32 m), o16 (zs[m]'HM4.out), u1, false⟩ : CoinV) = cl := ⟨_, rfl⟩
      simp only [hU] at r3 ⊢
      simp only [hcl] at r4 ⊢
      have HU := Lib.hid hU
      have HCL := Lib.hid hcl
      have HUL := Lib.hid (show U.length = m by rw [← hU, onceS_len, List.length_take]; have := HM.out; omega)
      have R8 := Lib.hid (And.intro ((R7.out.below b8).more b8.size) r3)
      have P8 := Lib.hid r4
      have H8 := Lib.hid (H7.out.call b8)
      clear r3 r4 b8 H7 R7 hU hcl hne hmw hmc
      go_wp2_with (first
          | ((with_reducible refine at_load 14 ?_); refine tyTx.wpList_load rfl (.tmp 14) rfl (w6.heap.size + 1) (0) rfl (txIO [(id, toU32 m)] (some ⟨w6.heap.size, 0, none⟩) 1 [] none 0) (RowC.of_blk (H8.out.at (x := (w6.heap.size + 1, 30, (txIO [(id, toU32 m)] (some ⟨w6.heap.size, 0, none⟩) 1 [] none 0).cells.toArray)) (by simp))) ?_)
          | ((with_reducible refine at_load 6 ?_); refine tyKc.wpList_load rfl (.tmp 6) rfl (w.heap.size + 2) (0) rfl (third) (RowC.of_blk (H8.out.at (x := (w.heap.size + 2, 27, (encK third).toArray)) (by simp))) ?_))
      refine (HP.out (txIO [(id, toU32 m)] (some ⟨w6.heap.size, 0, none⟩) 1 [] none 0) third u3 A3 c3 U _ (txIO_in (pt_row (l := [(id, toU32 m)]) (m := []) (H8.out.at (x := (w6.heap.size, 32, (cellsOf (encKI .u32) [(id, toU32 m)]).toArray)) (by simp)) (by simp) (by decide)) (RowIn.nil (Nat.zero_le _))) R8.out.2 (by have := HN.out; have := HUL.out; omega) (show ([(id, toU32 m)] : List PtV).length ≤ 300 by simp) (show ([] : List (IntV .i64 × K32)).length ≤ 300 by decide) (HU.out ▸ onceS_rises id u1 (zs.take m) (by have := HN.out; rw [List.length_take]; omega))).mono ?_
      rw [← HU.out, once3 id third u1 u3 zs HN.out m HM.out HI.out, HU.out]
      rintro e w9 ⟨A5, c5, A6, c6, rfl, _, _, b9⟩
      have R9 := Lib.hid (show RowIn encC 68 w9 w9.heap.size A1 c1 S ∧ RowIn encC 68 w9 w9.heap.size A3 c3 U ∧ RowIn encC 68 w9 w9.heap.size A4 c4 [cl] from ⟨(R8.out.1.below b9).more b9.size, (R8.out.2.below b9).more b9.size, (P8.out.below b9).more b9.size⟩)
      have H9 := Lib.hid (H8.out.call b9).drop.drop
      clear b9 H8 R8 P8 hm2
      go_wp2_with fail
      go_loopw [21] (fun si wr => ∃ j : Nat, si = .int .i64 j ∧ j ≤ zs.length ∧ Hid (Holds w [(w.heap.size + 2, 27, (encK third).toArray), (w.heap.size + 1, 27, (encK other).toArray), (w.heap.size, 27, (encK id).toArray)] wr) ∧ Hid (RowIn encC 68 wr wr.heap.size A1 c1 S ∧ RowIn encC 68 wr wr.heap.size A3 c3 U ∧ RowIn encC 68 wr wr.heap.size A4 c4 [cl])) (fun si _ => zs.length - (intOf si).toNat)
      case atStart => exact ⟨0, rfl, by omega, H9, R9⟩
      case round =>
        clear H9 R9
        obtain ⟨j, rfl, hj, HA, RA⟩ := hrel
        have HJ0 := Lib.hid hj
        have hjc : (j : Int) % 4294967296 = (j : Int) := by have := HN.out; omega
        have HV2 := Lib.hid (show (j : Int) = (toU32 j).1 from (toU32_val (by have := HN.out; omega)).symm)
        by_cases hlt : j < zs.length
        · have hd : decide ((j : Int) < (zs.length : Int)) = true := by simp; omega
          have HLT := Lib.hid hlt
          obtain ⟨x, hx⟩ : ∃ x, zs[j]'HLT.out = x := ⟨_, rfl⟩
          have HXX := Lib.hid hx
          obtain ⟨cc, hcc⟩ : ∃ cc : CoinV, (⟨(id, toU32 j), o16 x, u1, false⟩ : CoinV) = cc := ⟨_, rfl⟩
          have HCC := Lib.hid hcc
          have F1 := Lib.hid (show findK S (id, toU32 j) = some cc by rw [← HS.out, once_at id u1 zs HN.out j HLT.out, hx, hcc])
          obtain ⟨f2, hf2⟩ : ∃ f2, findK U (id, toU32 j) = f2 := ⟨_, rfl⟩
          obtain ⟨q, hq⟩ : ∃ q, f2.isSome = q := ⟨_, rfl⟩
          have hqq : decide ((j : Int) < (m : Int)) = q := by
            rw [← hq, ← hf2, ← HU.out, once_find id u1 (zs.take m) (by rw [List.length_take]; have := HN.out; omega) j (by have := HN.out; omega)]
            have := HM.out
            by_cases hjm : j < m
            · rw [List.getElem?_eq_getElem (by rw [List.length_take]; omega)]
              simpa using hjm
            · rw [List.getElem?_eq_none (by rw [List.length_take]; omega)]
              simpa using hjm
          have HQ := Lib.hid hqq
          have HF2 := Lib.hid (And.intro hf2 hq)
          clear hx hcc hf2 hq hqq hlt
          go_wp2_with (first
              | ((with_reducible refine at_load 4 ?_); refine tyKc.wpList_load rfl (.tmp 4) rfl (w.heap.size) (0) rfl (id) (RowC.of_blk (HA.out.at (x := (w.heap.size, 27, (encK id).toArray)) (by simp))) ?_)
              | ((with_reducible refine at_build 115 ?_); refine wpList_built rfl 32 #[(0, .tmp 112), (1, .tmp 114)] rfl (encKI .u32 (id, toU32 j)).toArray ((congrArg (Try.prog.built 32) ((show _ = [(0, Value.agg (encK id).toArray), (1, Value.int .u32 ((j : Nat) : Int))] by kernel_rfl).trans (congrArg (fun z => [(0, Value.agg (encK id).toArray), (1, Value.int .u32 z)]) HV2.out))).trans (cbuilt_KI _ rfl id (toU32 j))) ?_))
          refine (HF.out A1 c1 S (id, toU32 j) _ (by have := HN.out; have := HSL.out; have := HM.out; omega) RA.out.1).mono ?_
          rintro e w10 ⟨rfl, b10⟩
          have H10 := Lib.hid (HA.out.call b10)
          have R10 := Lib.hid (show RowIn encC 68 w10 w10.heap.size A1 c1 S ∧ RowIn encC 68 w10 w10.heap.size A3 c3 U ∧ RowIn encC 68 w10 w10.heap.size A4 c4 [cl] from ⟨(RA.out.1.below b10).more b10.size, (RA.out.2.1.below b10).more b10.size, (RA.out.2.2.below b10).more b10.size⟩)
          clear b10 HA RA
          rw [F1.out]
          simp only [Option.getD_some, Option.isSome_some]
          go_wp2_with (first
              | ((with_reducible refine at_store 22 117 ?_); refine tyCoc.wpList_store rfl (.tmp 22) (.tmp 117) rfl rfl w10.heap.size (cc) rfl rfl 49 _ (Blk.new w10 49 Z0) (by rw [HZS.out]) ?_; intro w11 o11 b11
                 have H11 := Lib.hid (H10.out.put o11 b11)
                 have S11 := Lib.hid (show w10.heap.size ≤ w11.heap.size by rw [o11.size]; simp)
                 have R11 := Lib.hid (show RowIn encC 68 w11 w11.heap.size A1 c1 S ∧ RowIn encC 68 w11 w11.heap.size A3 c3 U ∧ RowIn encC 68 w11 w11.heap.size A4 c4 [cl] from ⟨((R10.out.1.below ((Below.refl _ _).alloc (Nat.le_refl _) _)).below (o11.below (B := w10.heap.size) (by simp))).more S11.out, ((R10.out.2.1.below ((Below.refl _ _).alloc (Nat.le_refl _) _)).below (o11.below (B := w10.heap.size) (by simp))).more S11.out, ((R10.out.2.2.below ((Below.refl _ _).alloc (Nat.le_refl _) _)).below (o11.below (B := w10.heap.size) (by simp))).more S11.out⟩)
                 have H11b := Lib.hid (show Below w10.heap.size w10 w11 from ((Below.refl _ _).alloc (Nat.le_refl _) _).trans (o11.below (by simp)))
                 clear o11 b11 R10)
              | ((with_reducible refine at_load 4 ?_); refine tyKc.wpList_load rfl (.tmp 4) rfl (w.heap.size) (0) rfl (id) (RowC.of_blk (H11.out.at (x := (w.heap.size, 27, (encK id).toArray)) (by simp))) ?_)
              | ((with_reducible refine at_build 124 ?_); refine wpList_built rfl 32 #[(0, .tmp 121), (1, .tmp 123)] rfl (encKI .u32 (id, toU32 j)).toArray ((congrArg (Try.prog.built 32) ((show _ = [(0, Value.agg (encK id).toArray), (1, Value.int .u32 ((j : Nat) : Int))] by kernel_rfl).trans (congrArg (fun z => [(0, Value.agg (encK id).toArray), (1, Value.int .u32 z)]) HV2.out))).trans (cbuilt_KI _ rfl id (toU32 j))) ?_))
          refine (HF.out A3 c3 U (id, toU32 j) _ (by have := HN.out; have := HUL.out; have := HM.out; omega) R11.out.2.1).mono ?_
          rintro e w12 ⟨rfl, b12⟩
          have H12 := Lib.hid (H11.out.call b12)
          have R12 := Lib.hid (show RowIn encC 68 w12 w12.heap.size A1 c1 S ∧ RowIn encC 68 w12 w12.heap.size A3 c3 U ∧ RowIn encC 68 w12 w12.heap.size A4 c4 [cl] from ⟨(R11.out.1.below b12).more b12.size, (R11.out.2.1.below b12).more b12.size, (R11.out.2.2.below b12).more b12.size⟩)
          clear b12 H11 R11
          rw [HF2.out.1, HF2.out.2]
          obtain ⟨cu, hcu⟩ : ∃ cu, f2.getD zeroCoin = cu := ⟨_, rfl⟩
          rw [hcu]
          clear hcu
          obtain ⟨g, o, hA, hg, hc⟩ := (HR.out.below H12.out.below).at (enc1_len _) HLT.out
          rw [HXX.out] at hc
          have HVG := Lib.hid (And.intro hc (Nat.lt_of_lt_of_le hg H12.out.below.size))
          have HAA := Lib.hid hA
          clear hc hg hA
          go_wp2_with (first
              | ((with_reducible refine at_store 24 126 ?_); refine tyCoc.wpList_store rfl (.tmp 24) (.tmp 126) rfl rfl w12.heap.size (cu) rfl rfl 49 _ (Blk.new w12 49 Z0) (by rw [HZS.out]) ?_; intro w13 o13 b13
                 have H13 := Lib.hid (H12.out.put o13 b13)
                 have S13 := Lib.hid (show w12.heap.size ≤ w13.heap.size by rw [o13.size]; simp)
                 have R13 := Lib.hid (show RowIn encC 68 w13 w13.heap.size A1 c1 S ∧ RowIn encC 68 w13 w13.heap.size A3 c3 U ∧ RowIn encC 68 w13 w13.heap.size A4 c4 [cl] from ⟨((R12.out.1.below ((Below.refl _ _).alloc (Nat.le_refl _) _)).below (o13.below (B := w12.heap.size) (by simp))).more S13.out, ((R12.out.2.1.below ((Below.refl _ _).alloc (Nat.le_refl _) _)).below (o13.below (B := w12.heap.size) (by simp))).more S13.out, ((R12.out.2.2.below ((Below.refl _ _).alloc (Nat.le_refl _) _)).below (o13.below (B := w12.heap.size) (by simp))).more S13.out⟩)
                 have H13b := Lib.hid (show Below w12.heap.size w12 w13 from ((Below.refl _ _).alloc (Nat.le_refl _) _).trans (o13.below (by simp)))
                 clear o13 b13 R12))
          have hA := HAA.out
          subst hA
          have hm2 : (zs.length : Int) - 1 = (m : Int) := by have := HM.out; omega
          have hmw : IntKind.i64.wrap (m : Int) = (m : Int) := by have := HM.out; have := HN.out; rw [IntKind.wrap_i64]; omega
          have hx0 := wf_u16r x
          have hcv : IntKind.i64.wrap x.1 = x.1 := by rw [IntKind.wrap_i64]; omega
          have hi0 : (0 : Int) ≤ (j : Int) := by omega
          have hi1 : (j : Int) < (zs.length : Int) := by have := HLT.out; omega
          have K13 := Lib.hid (H13.out.at (x := (w10.heap.size, 49, (encC cc).toArray)) (by simp))
          have RA := Lib.hid (show ∀ W, From w13 W → RowC W w10.heap.size 0 (encC cc) from fun W hC => RowC.of_blk (below_blk hC.below K13.out K13.out.lt))
          have R33 := Lib.hid (show ∀ W, From w13 W → W.cell? ⟨w10.heap.size, 33, none⟩ = some (.int .i64 x.1) from fun W hC => by have := (RowC.co_out (RA.out W hC)).head; rw [← HCC.out] at this; simp only [Nat.zero_add] at this; exact this)
          have R66 := Lib.hid (show ∀ W, From w13 W → W.cell? ⟨w10.heap.size, 66, none⟩ = some (.int .u32 1) from fun W hC => by have := RowC.co_h (RA.out W hC); rw [← HCC.out] at this; simp only [Nat.zero_add] at this; exact this)
          have R67 := Lib.hid (show ∀ W, From w13 W → W.cell? ⟨w10.heap.size, 67, none⟩ = some (.bool false) from fun W hC => by have := RowC.co_b (RA.out W hC); rw [← HCC.out] at this; simp only [Nat.zero_add] at this; exact this)
          have RV := Lib.hid (show ∀ W, From w13 W → W.cell? ⟨g, o + j, none⟩ = some (.int .u16 x.1) from fun W hC => by rw [← Nat.mul_one j]; exact ((HVG.out.1.below (H13b.out) HVG.out.2).below hC.below (Nat.lt_of_lt_of_le HVG.out.2 H13b.out.size)).head)
          have hqq := HQ.out
          have hqn : decide (j < m) = q := by rw [← hqq]; simp
          clear hd HAA HF2
          cases q with
          | false =>
            go_wp2_with fail
            refine wp_region_from (by kernel_rfl) (by kernel_rfl) ?_
            repeat (first
              | go_big_quiet_skip
              | ((with_reducible refine at_qload 132 ?_); refine wpQuiet_load_one (by rfl) 2 (.tmp 132) rfl ⟨w10.heap.size, 33, none⟩ rfl _ Try.isAgg2 R33.out ?_; simp only [Act.put, List.setIfInBounds_toArray, List.set_cons_succ, List.set_cons_zero])
              | ((with_reducible refine at_qload 136 ?_); refine wpQuiet_load_one (by rfl) 64 (.tmp 136) rfl ⟨g, o + j, none⟩ rfl _ Try.isAgg64 RV.out ?_; simp only [Act.put, List.setIfInBounds_toArray, List.set_cons_succ, List.set_cons_zero])
              | ((with_reducible refine at_qload 142 ?_); refine wpQuiet_load_one (by rfl) 23 (.tmp 142) rfl ⟨w10.heap.size, 66, none⟩ rfl _ Try.isAgg23 R66.out ?_; simp only [Act.put, List.setIfInBounds_toArray, List.set_cons_succ, List.set_cons_zero])
              | ((with_reducible refine at_qload 147 ?_); refine wpQuiet_load_one (by rfl) 4 (.tmp 147) rfl ⟨w10.heap.size, 67, none⟩ rfl _ Try.isAgg4 R67.out ?_; simp only [Act.put, List.setIfInBounds_toArray, List.set_cons_succ, List.set_cons_zero])
              | (go_big_quiet_want; go_big_quiet_op; refine ⟨_, fun _ _ => by with_reducible rfl, ?_⟩; go_big_quiet_on)
              | go_big_quiet_step (fail))
            refine wpQuiet_nil ?_
            intro w14 hC
            have H14 := Lib.hid (show Holds w [(w.heap.size + 2, 27, (encK third).toArray), (w.heap.size + 1, 27, (encK other).toArray), (w.heap.size, 27, (encK id).toArray)] w14 from (H13.out.call hC.below).drop.drop)
            have R14 := Lib.hid (show RowIn encC 68 w14 w14.heap.size A1 c1 S ∧ RowIn encC 68 w14 w14.heap.size A3 c3 U ∧ RowIn encC 68 w14 w14.heap.size A4 c4 [cl] from ⟨(R13.out.1.below hC.below).more hC.below.size, (R13.out.2.1.below hC.below).more hC.below.size, (R13.out.2.2.below hC.below).more hC.below.size⟩)
            clear hC RA R33 R66 R67 RV K13
            go_wp2_with fail
            go_roundw
            case rel => exact ⟨j + 1, by go_num, by have := HLT.out; omega, H14, R14⟩
            case measure => have := HLT.out; simp [intOf]; omega
          | true =>
            go_wp2_with fail
            refine wp_region_from (by kernel_rfl) (by kernel_rfl) ?_
            repeat (first
              | go_big_quiet_skip
              | ((with_reducible refine at_qload 132 ?_); refine wpQuiet_load_one (by rfl) 2 (.tmp 132) rfl ⟨w10.heap.size, 33, none⟩ rfl _ Try.isAgg2 R33.out ?_; simp only [Act.put, List.setIfInBounds_toArray, List.set_cons_succ, List.set_cons_zero])
              | ((with_reducible refine at_qload 136 ?_); refine wpQuiet_load_one (by rfl) 64 (.tmp 136) rfl ⟨g, o + j, none⟩ rfl _ Try.isAgg64 RV.out ?_; simp only [Act.put, List.setIfInBounds_toArray, List.set_cons_succ, List.set_cons_zero])
              | ((with_reducible refine at_qload 142 ?_); refine wpQuiet_load_one (by rfl) 23 (.tmp 142) rfl ⟨w10.heap.size, 66, none⟩ rfl _ Try.isAgg23 R66.out ?_; simp only [Act.put, List.setIfInBounds_toArray, List.set_cons_succ, List.set_cons_zero])
              | ((with_reducible refine at_qload 147 ?_); refine wpQuiet_load_one (by rfl) 4 (.tmp 147) rfl ⟨w10.heap.size, 67, none⟩ rfl _ Try.isAgg4 R67.out ?_; simp only [Act.put, List.setIfInBounds_toArray, List.set_cons_succ, List.set_cons_zero])
              | (go_big_quiet_want; go_big_quiet_op; refine ⟨_, fun _ _ => by with_reducible rfl, ?_⟩; go_big_quiet_on)
              | go_big_quiet_step (fail))
            refine wpQuiet_nil ?_
            intro w14 hC
            have H14 := Lib.hid (show Holds w [(w.heap.size + 2, 27, (encK third).toArray), (w.heap.size + 1, 27, (encK other).toArray), (w.heap.size, 27, (encK id).toArray)] w14 from (H13.out.call hC.below).drop.drop)
            have R14 := Lib.hid (show RowIn encC 68 w14 w14.heap.size A1 c1 S ∧ RowIn encC 68 w14 w14.heap.size A3 c3 U ∧ RowIn encC 68 w14 w14.heap.size A4 c4 [cl] from ⟨(R13.out.1.below hC.below).more hC.below.size, (R13.out.2.1.below hC.below).more hC.below.size, (R13.out.2.2.below hC.below).more hC.below.size⟩)
            clear hC RA R33 R66 R67 RV K13
            go_wp2_with fail
            go_roundw
            case rel => exact ⟨j + 1, by go_num, by have := HLT.out; omega, H14, R14⟩
            case measure => have := HLT.out; simp [intOf]; omega
        · have hd : decide ((j : Int) < (zs.length : Int)) = false := by simp; omega
          obtain rfl : j = zs.length := by omega
          have FN := Lib.hid (show findK S (id, toU32 zs.length) = none by rw [← HS.out, once_find id u1 zs HN.out _ (by have := HN.out; omega), List.getElem?_eq_none (Nat.le_refl _)]; rfl)
          go_wp2_with (first
              | ((with_reducible refine at_load 4 ?_); refine tyKc.wpList_load rfl (.tmp 4) rfl (w.heap.size) (0) rfl (id) (RowC.of_blk (HA.out.at (x := (w.heap.size, 27, (encK id).toArray)) (by simp))) ?_)
              | ((with_reducible refine at_build 165 ?_); refine wpList_built rfl 32 #[(0, .tmp 161), (1, .tmp 164)] rfl (encKI .u32 (id, toU32 zs.length)).toArray ((congrArg (Try.prog.built 32) ((show _ = [(0, Value.agg (encK id).toArray), (1, Value.int .u32 ((zs.length : Nat) : Int))] by kernel_rfl).trans (congrArg (fun z => [(0, Value.agg (encK id).toArray), (1, Value.int .u32 z)]) HV2.out))).trans (cbuilt_KI _ rfl id (toU32 zs.length))) ?_))
          refine (HF.out A1 c1 S (id, toU32 zs.length) _ (by have := HN.out; have := HSL.out; omega) RA.out.1).mono ?_
          rintro e w15 ⟨rfl, b15⟩
          have H15 := Lib.hid (HA.out.call b15)
          have R15 := Lib.hid (show RowIn encC 68 w15 w15.heap.size A4 c4 [cl] from (RA.out.2.2.below b15).more b15.size)
          clear b15 HA RA hjc hd
          rw [FN.out]
          simp only [Option.getD_none, Option.isSome_none]
          go_wp2_with (first
              | ((with_reducible refine at_store 26 167 ?_); refine tyCoc.wpList_store rfl (.tmp 26) (.tmp 167) rfl rfl w15.heap.size zeroCoin rfl rfl 49 _ (Blk.new w15 49 Z0) (by rw [HZS.out]) ?_; intro w16 o16' b16
                 have H16 := Lib.hid (H15.out.put o16' b16)
                 have S16 := Lib.hid (show w15.heap.size ≤ w16.heap.size by rw [o16'.size]; simp)
                 have R16 := Lib.hid (show RowIn encC 68 w16 w16.heap.size A4 c4 [cl] from ((R15.out.below ((Below.refl _ _).alloc (Nat.le_refl _) _)).below (o16'.below (B := w15.heap.size) (by simp))).more S16.out)
                 clear o16' b16 R15 H15))
          obtain ⟨gc, oc, hAc, hgc, hcc⟩ := R16.out.at encC_len (i := 0) (by simp)
          obtain ⟨g, o, hA, hg, hc⟩ := (HR.out.below H16.out.below).at (enc1_len _) HM4.out
          obtain ⟨x, hx⟩ : ∃ x, zs[m]'HM4.out = x := ⟨_, rfl⟩
          rw [hx] at hc
          have HXX := Lib.hid hx
          have HG := Lib.hid (And.intro hg hgc)
          have HC1 := Lib.hid hc
          have HC2 := Lib.hid (show RowC w16 gc (oc + 0 * 68) (encC cl) from hcc)
          subst hA
          subst hAc
          clear hc hcc hx hg hgc
          have hm2 : (zs.length : Int) - 1 = (m : Int) := by have := HM.out; omega
          have hmw : IntKind.i64.wrap (m : Int) = (m : Int) := by have := HM.out; have := HN.out; rw [IntKind.wrap_i64]; omega
          have hx0 := wf_u16r x
          have hcv : IntKind.i64.wrap x.1 = x.1 := by rw [IntKind.wrap_i64]; omega
          have hi0 : (0 : Int) ≤ (m : Int) := by omega
          have hi1 : (m : Int) < (zs.length : Int) := by have := HM.out; omega
          have RC := Lib.hid (show ∀ W, From w16 W → W.cell? ⟨gc, oc + 0 * 68 + 33, none⟩ = some (.int .i64 x.1) from fun W hC => by
            have := (RowC.co_out (HC2.out.below hC.below HG.out.2)).head
            rw [← HCL.out] at this
            rw [← HXX.out]
            exact this)
          have RV := Lib.hid (show ∀ W, From w16 W → W.cell? ⟨g, o + m, none⟩ = some (.int .u16 x.1) from fun W hC => by rw [← Nat.mul_one m]; exact (HC1.out.below hC.below (Nat.lt_of_lt_of_le HG.out.1 H16.out.below.size)).head)
          go_wp2_with fail
          refine wp_region_from (by kernel_rfl) (by kernel_rfl) ?_
          repeat (first
            | go_big_quiet_skip
            | ((with_reducible refine at_qload 180 ?_); refine wpQuiet_load_one (by rfl) 2 (.tmp 180) rfl ⟨gc, oc + 0 * 68 + 33, none⟩ rfl _ Try.isAgg2 RC.out ?_; simp only [Act.put, List.setIfInBounds_toArray, List.set_cons_succ, List.set_cons_zero])
            | ((with_reducible refine at_qload 186 ?_); refine wpQuiet_load_one (by rfl) 64 (.tmp 186) rfl ⟨g, o + m, none⟩ rfl _ Try.isAgg64 RV.out ?_; simp only [Act.put, List.setIfInBounds_toArray, List.set_cons_succ, List.set_cons_zero])
            | (go_big_quiet_want; go_big_quiet_op; refine ⟨_, fun _ _ => by with_reducible rfl, ?_⟩; go_big_quiet_on)
            | go_big_quiet_step (fail))
          refine wpQuiet_nil ?_
          intro w17 hC
          have B17 := Lib.hid (H16.out.call hC.below).below
          clear hC RC RV
          go_wp2_with fail
          go_ret
          exact ⟨rfl, B17.out⟩
theorem conce_walk (HAP : ApplyOk) (HFI : FindOk) (id other third : K32) (A0 : Option Addr) (c0 : Nat) (zs : List (IntV .u16)) (w : World) (hz : RowIn (enc1 .u16) 1 w w.heap.size A0 c0 zs) :
    Calls Try.prog 6 #[.agg (encK id).toArray, .agg (encK other).toArray, .agg (encK third).toArray, .slice A0 zs.length c0] w fun e w' => e = .returned (.bool true) ∧ Below w.heap.size w w' := by
  by_cases h1 : 30 < zs.length
  · exact conce_many HAP id other third A0 c0 zs w hz h1
  · by_cases h2 : zs.length = 0
    · exact conce_none HAP id other third A0 c0 zs w hz h2
    · cases h3 : decide (id = zeroKey) with
      | true => exact conce_zero HAP id other third A0 c0 zs w hz (by omega) (by omega) h3
      | false => exact conce_main HAP HFI id other third A0 c0 zs w hz (by omega) (by omega) h3
end Go.Proofs.Ytkjgmhamglhggaa
