/- CheckBase's walk. Written by genLCb.py. -/
import Derived.Test.YticphjnabecanaaLChBsA
namespace Go.Proofs.Yticphjnabecanaa
open Go.RowKit
def bA (z : IntV .u32) (g : Nat) (O : List OutB) (A : Option Addr) (c : Nat) (M : List K32) (An : Option Addr) (cn : Nat) (Z : List K32) (At : Option Addr) (ct : Nat) : TxA := ⟨bT z O M Z, some ⟨g, 0, none⟩, 1, A, c, An, cn, At, ct⟩
def bP (z : IntV .u32) : Array Value := (cellsOf (encKI .u32) [((zeroKey, z) : PtC)]).toArray
theorem bA_in {W : World} {z : IntV .u32} {g : Nat} {O : List OutB} {A : Option Addr} {c : Nat} {M : List K32} {An : Option Addr} {cn : Nat} {Z : List K32} {At : Option Addr} {ct : Nat} (hi : Blk W g 40 (bP z)) (ho : RowIn (encIK .i64) 33 W W.heap.size A c O) (hm : RowIn encK 32 W W.heap.size An cn M) (hz : RowIn encK 32 W W.heap.size At ct Z) : (bA z g O A c M An cn Z At ct).In W W.heap.size :=
  ⟨(rowIn_blk (c := 1) (l := [((zeroKey, z) : PtC)]) hi (by simp) (by decide)).more (Nat.succ_le_of_lt hi.lt), ho, hm, hz⟩
theorem bA_outs (z : IntV .u32) (g : Nat) (O Q : List OutB) (A B : Option Addr) (c d : Nat) : (bA z g O A c [] none 0 [] none 0).cells.toArray.setIfInBounds 2 (.slice B Q.length d) = (bA z g Q B d [] none 0 [] none 0).cells.toArray := tx_set_outs Q B d
theorem bA_nulls (z : IntV .u32) (g : Nat) (O : List OutB) (A : Option Addr) (c : Nat) (k : K32) (B : Option Addr) (d : Nat) : (bA z g O A c [] none 0 [] none 0).cells.toArray.setIfInBounds 35 (.slice B 1 d) = (bA z g O A c [k] B d [] none 0).cells.toArray := tx_set_nulls [k] B d
theorem bA_notes (z : IntV .u32) (g : Nat) (O : List OutB) (A : Option Addr) (c : Nat) (k : K32) (An : Option Addr) (cn : Nat) (B : Option Addr) (d : Nat) : (bA z g O A c [k] An cn [] none 0).cells.toArray.setIfInBounds 36 (.slice B 1 d) = (bA z g O A c [k] An cn [k] B d).cells.toArray := tx_set_notes [k] B d
theorem built_bP (t : TypeId) (ht : t = 40) (z : IntV .u32) : Try.prog.built t [(1, .int .u32 z.1)] = some (encKI .u32 (zeroKey, z)).toArray := by
  subst ht
  obtain ⟨z, hz⟩ := z
  kernel_rfl
theorem bzsK : ((Try.prog.info? 26).bind (·.zero)).isSome = true := by kernel_rfl
theorem bzsO : ((Try.prog.info? 45).bind (·.zero)).isSome = true := by kernel_rfl
theorem bown_grown {w w' : World} {base : Nat} {e : TypeId} {size n : Nat} {v : Value} {xs : List Value} (h : w.ownsRow base e size v n xs) (hg : w.grownBy w' v.ownBlock) (hB : base ≤ w.heap.size) : Below base w w' := (Below.refl _ _).grown hg hB (own_base h)
theorem bown_keep {w w' : World} {base : Nat} {e : TypeId} {size n : Nat} {v : Value} {xs : List Value} {L : List Nat} (h : w.ownsRow base e size v n xs) (o : Only L w w') (hL : ∀ g ∈ L, g < base) : w'.ownsRow base e size v n xs :=
  ⟨h.1, h.2.imp id fun ⟨g, cap, cur, h1, h2, h3, h4⟩ => ⟨g, cap, cur, h1, h2, (o.block g (fun hm => by have := hL g hm; omega)).trans h3, h4⟩⟩
theorem bown_call {w w' : World} {base : Nat} {e : TypeId} {size n : Nat} {v : Value} {xs : List Value} (h : w.ownsRow base e size v n xs) (hb : Below w.heap.size w w') : w'.ownsRow base e size v n xs :=
  ⟨h.1, h.2.imp id fun ⟨g, cap, cur, h1, h2, h3, h4⟩ => ⟨g, cap, cur, h1, h2, below_blk hb h3 (Blk.lt h3), h4⟩⟩
theorem bown_row {W : World} {base : Nat} {A : Option Addr} {c : Nat} {O : List OutB} (h : W.ownsRow base 45 33 (.slice A O.length c) O.length (cellsOf (encIK .i64) O)) : RowIn (encIK .i64) 33 W W.heap.size A c O := by
  obtain ⟨A', c', e, r⟩ := RowIn.of_own (encIK_len _) h
  cases e
  exact r
structure BsS (w : World) (k : K32) (g o : Nat) (x : IntV .u32) (V : World) : Prop where
  x : RowC V g o (enc1 .u32 x)
  k : RowC V w.heap.size 0 (encK k)
set_option maxRecDepth 20000 in
set_option maxHeartbeats 4000000 in
theorem chBase_many (HCK : ChkTOk) (HPO : PointsOk) (z : IntV .u32) (A0 : Option Addr) (c0 : Nat) (zs : List (IntV .u32)) (k : K32) (s : Bool) (w : World) (_ : RowIn (enc1 .u32) 1 w w.heap.size A0 c0 zs) (hn : 30 < zs.length) :
    Calls Try.prog 7 #[.int .u32 z.1, .slice A0 zs.length c0, .agg (encK k).toArray, .bool s] w fun e w' => e = .returned (.bool true) ∧ Below w.heap.size w w' := by
  have hd : decide ((30 : Int) < (zs.length : Int)) = true := by simp; omega
  have SH := Lib.hid (fun W => chshown_any HCK HPO W)
  have H0 := Lib.hid (show Holds w [(w.heap.size, 26, (encK k).toArray)] (w.alloc (.cells (encK k).toArray 26)) from (Holds.nil w).box 26 (encK k).toArray)
  clear hn HCK HPO
  go_enter Try.func7, Try.ntmps7
  go_wp2_with fail
  refine (SH.out _).mono ?_
  rintro e w2 ⟨rfl, b2⟩
  have H2 := Lib.hid (H0.out.call b2)
  go_wp2_with fail
  go_ret
  exact ⟨rfl, H2.out.below⟩
set_option maxRecDepth 20000 in
set_option maxHeartbeats 4000000 in
theorem chBase_m (HCK : ChkTOk) (HPO : PointsOk) (z : IntV .u32) (A0 : Option Addr) (c0 : Nat) (zs : List (IntV .u32)) (k : K32) (s : Bool) (w : World) (hz : RowIn (enc1 .u32) 1 w w.heap.size A0 c0 zs) (hn : zs.length ≤ 30) :
    Calls Try.prog 7 #[.int .u32 z.1, .slice A0 zs.length c0, .agg (encK k).toArray, .bool s] w fun e w' => e = .returned (.bool true) ∧ Below w.heap.size w w' := by
  have SH := Lib.hid (fun W => chshown_any HCK HPO W)
  have H0 := Lib.hid (show Holds w [(w.heap.size, 26, (encK k).toArray)] (w.alloc (.cells (encK k).toArray 26)) from (Holds.nil w).box 26 (encK k).toArray)
  have hd : decide ((30 : Int) < (zs.length : Int)) = false := by simp; omega
  have HN := Lib.hid hn
  have HR := Lib.hid hz
  clear HPO hz
  go_enter Try.func7, Try.ntmps7
  go_wp2_with fail
  refine (SH.out _).mono ?_
  rintro e w2 ⟨rfl, b2⟩
  have H2 := Lib.hid (H0.out.call b2)
  clear b2 H0 hd
  go_wp2_with (first
    | ((with_reducible refine at_build 21 ?_); refine wpList_built rfl 40 #[(1, .tmp 20)] rfl (encKI .u32 ((zeroKey, z) : PtC)).toArray (built_bP _ rfl z) ?_)
    | ((with_reducible refine at_buildSlice 22 ?_); refine tyPt.wpList_build rfl zsPt 1 _ rfl [((zeroKey, z) : PtC)] rfl (by omega) (by omega) (by kernel_rfl) ?_)
    | ((with_reducible refine at_build 23 ?_); refine wpList_built rfl 29 #[(1, .tmp 22)] rfl (bA z w2.heap.size [] none 0 [] none 0 [] none 0).cells.toArray (by kernel_rfl) ?_)
    | ((with_reducible refine at_store 9 23 ?_); refine tyTx.wpList_store rfl (.tmp 9) (.tmp 23) rfl rfl _ (bA z w2.heap.size [] none 0 [] none 0 [] none 0) rfl rfl 29 _ (blk_new (g := w2.heap.size + 1) 29 _ (by simp)) rfl ?_; intro w3 o3 b3
       have H3 := Lib.hid (show Holds w ((w2.heap.size + 1, 29, (bA z w2.heap.size [] none 0 [] none 0 [] none 0).cells.toArray) :: (w2.heap.size, 40, bP z) :: [(w.heap.size, 26, (encK k).toArray)]) w3 from by have := (H2.out.box 40 (bP z)).put (t := 29) (cs := (bA z w2.heap.size [] none 0 [] none 0 [] none 0).cells.toArray) (W' := w3) (by simpa [bP] using o3) (by simpa using b3); simpa using this)
       have G3 := Lib.hid (show w2.heap.size + 2 ≤ w3.heap.size ∧ w.heap.size + 1 ≤ w2.heap.size from ⟨by rw [o3.size]; simp, H2.out.lt (x := (w.heap.size, 26, (encK k).toArray)) (by simp)⟩)
       clear o3 b3 H2))
  obtain ⟨gi, hgi⟩ : ∃ g, w2.heap.size = g := ⟨_, rfl⟩
  rw [hgi] at H3 G3 ⊢
  clear hgi
  have O3 := Lib.hid (show World.ownsRow w3 (gi + 2) 45 33 (.slice none ((zs.take 0).map (o32 k)).length 0) ((zs.take 0).map (o32 k)).length (cellsOf (encIK .i64) ((zs.take 0).map (o32 k))) from ⟨rfl, .inl ⟨rfl, rfl⟩⟩)
  go_loopw [10] (fun si wr => ∃ (j : Nat) (A : Option Addr) (c : Nat), si = .int .i64 j ∧ j ≤ zs.length ∧ Hid (Holds w ((gi + 1, 29, (bA z gi ((zs.take j).map (o32 k)) A c [] none 0 [] none 0).cells.toArray) :: (gi, 40, bP z) :: [(w.heap.size, 26, (encK k).toArray)]) wr) ∧ Hid (World.ownsRow wr (gi + 2) 45 33 (.slice A ((zs.take j).map (o32 k)).length c) ((zs.take j).map (o32 k)).length (cellsOf (encIK .i64) ((zs.take j).map (o32 k))))) (fun si _ => zs.length - (intOf si).toNat)
  case atStart => exact ⟨0, none, 0, rfl, by omega, H3, O3⟩
  case round =>
    clear H3 O3
    obtain ⟨j, A, c, rfl, hj, H4, O4⟩ := hrel
    by_cases hlt : j < zs.length
    · have hd : decide ((j : Int) < (zs.length : Int)) = true := by simp; omega
      obtain ⟨g, o, hA, hg, hc⟩ := (HR.out.below H4.out.below).at (enc1_len _) hlt
      obtain ⟨x, hx⟩ : ∃ x, zs[j]'hlt = x := ⟨_, rfl⟩
      rw [hx] at hc
      subst hA
      have HG := Lib.hid hg
      have HX := Lib.hid hc
      have HTS := Lib.hid (show (zs.take j).map (o32 k) ++ [o32 k x] = (zs.take (j + 1)).map (o32 k) by rw [List.take_succ_eq_append_getElem hlt, hx, List.map_append]; rfl)
      have HLL := Lib.hid (show ((zs.take j).map (o32 k)).length + [o32 k x].length ≤ 1000000 by have := HN.out; rw [List.length_map, List.length_take, List.length_singleton]; omega)
      have hi0 : (0 : Int) ≤ (j : Int) := by omega
      have hi1 : (j : Int) < (zs.length : Int) := by omega
      have hcv : IntKind.i64.wrap x.1 = x.1 := by have := wf_u32r x; rw [IntKind.wrap_i64]; omega
      have HJ := Lib.hid (show j + 1 ≤ zs.length by omega)
      clear hx hc hg
      go_wp2_with fail
      obtain ⟨wd, hwd⟩ : ∃ q, wr.drew = q := ⟨_, rfl⟩
      have AH := Lib.hid (show Holds w ((gi + 1, 29, (bA z gi ((zs.take j).map (o32 k)) A c [] none 0 [] none 0).cells.toArray) :: (gi, 40, bP z) :: [(w.heap.size, 26, (encK k).toArray)]) wd from hwd ▸ ⟨H4.out.below.drew, H4.out.blks⟩)
      have AO := Lib.hid (show World.ownsRow wd (gi + 2) 45 33 (.slice A ((zs.take j).map (o32 k)).length c) ((zs.take j).map (o32 k)).length (cellsOf (encIK .i64) ((zs.take j).map (o32 k))) from hwd ▸ O4.out)
      have AX := Lib.hid (show RowC wd g (o + j * 1) (enc1 .u32 x) from hwd ▸ HX.out)
      have AG := Lib.hid (show gi + 1 < wd.heap.size from AH.out.lt (x := (gi + 1, 29, (bA z gi ((zs.take j).map (o32 k)) A c [] none 0 [] none 0).cells.toArray)) (by simp))
      have EE := Lib.hid (Below.refl wd.heap.size wd)
      have KS := Lib.hid (show ∀ W, Below wd.heap.size wd W → BsS w k g (o + j * 1) x W from fun W h => ⟨AX.out.below h (by have := HG.out; have := G3.out; have := AG.out; omega), RowC.of_blk (below_blk h (AH.out.at (x := (w.heap.size, 26, (encK k).toArray)) (by simp)) (AH.out.at (x := (w.heap.size, 26, (encK k).toArray)) (by simp)).lt)⟩)
      clear H4 O4 HX
      refine wp_region_held_drew (S := BsS w k g (o + j * 1) x) (by kernel_rfl) (hwd ▸ KS.out wd EE.out) ?_
      intro hS
      rw [hwd] at hS ⊢
      clear hwd
      refine wpAnyH_take (i := 0) (v := .pointer (some ⟨gi + 1, 2, none⟩)) rfl (by kernel_rfl) (by kernel_rfl) (by kernel_rfl) (fun _ _ _ h => h) (Or.inl ⟨by rfl, fun W _ => by go_simp; try with_reducible rfl⟩) hS ?_
      simp only [Act.put, List.getElem_toArray, List.getElem_cons_zero, List.setIfInBounds_toArray, List.set_cons_succ, List.set_cons_zero]
      refine wpAnyH_take (i := 2) (v := .slice (some ⟨g, o, none⟩) zs.length c0) rfl (by kernel_rfl) (by kernel_rfl) (by kernel_rfl) (fun _ _ _ h => h) (Or.inl ⟨by rfl, fun W _ => by go_simp; try with_reducible rfl⟩) hS ?_
      simp only [Act.put, List.getElem_toArray, List.getElem_cons_zero, List.getElem_cons_succ, List.setIfInBounds_toArray, List.set_cons_succ, List.set_cons_zero]
      refine wpAnyH_take (i := 3) (v := .int .i64 j) rfl (by kernel_rfl) (by kernel_rfl) (by kernel_rfl) (fun _ _ _ h => h) (Or.inl ⟨by rfl, fun W _ => by go_simp; try with_reducible rfl⟩) hS ?_
      simp only [Act.put, List.getElem_toArray, List.getElem_cons_zero, List.getElem_cons_succ, List.setIfInBounds_toArray, List.set_cons_succ, List.set_cons_zero]
      refine wpAnyH_take (i := 4) (v := .pointer (some ⟨g, o + j * 1, none⟩)) rfl (by kernel_rfl) (by kernel_rfl) (by kernel_rfl) (fun _ _ _ h => h) (Or.inl ⟨by rfl, fun W _ => by go_simp; try with_reducible rfl⟩) hS ?_
      simp only [Act.put, List.getElem_toArray, List.getElem_cons_zero, List.getElem_cons_succ, List.setIfInBounds_toArray, List.set_cons_succ, List.set_cons_zero]
      refine wpAnyH_take (i := 5) (v := .int .u32 x.1) rfl (by kernel_rfl) (by kernel_rfl) (by kernel_rfl) (fun _ _ _ h => h) (yieldsIf_cell (by rfl) 22 (.tmp 34) rfl ⟨g, o + j * 1, none⟩ rfl _ Try.isAgg22 (fun _ h => h.x.head)) hS ?_
      simp only [Act.put, List.getElem_toArray, List.getElem_cons_zero, List.getElem_cons_succ, List.setIfInBounds_toArray, List.set_cons_succ, List.set_cons_zero]
      refine wpAnyH_take (i := 6) (v := .int .i64 x.1) rfl (by kernel_rfl) (by kernel_rfl) (by kernel_rfl) (fun _ _ _ h => h) (Or.inl ⟨by rfl, fun W _ => by go_simp; try with_reducible rfl⟩) hS ?_
      simp only [Act.put, List.getElem_toArray, List.getElem_cons_zero, List.getElem_cons_succ, List.setIfInBounds_toArray, List.set_cons_succ, List.set_cons_zero]
      refine wpAnyH_take (i := 7) (v := .agg (encK k).toArray) rfl (by kernel_rfl) (by kernel_rfl) (by kernel_rfl) (fun _ _ _ h => h) (tyKc.yieldsIf_load (by rfl) (.tmp 6) rfl w.heap.size 0 rfl k (fun _ h => h.k)) hS ?_
      simp only [Act.put, List.getElem_toArray, List.getElem_cons_zero, List.getElem_cons_succ, List.setIfInBounds_toArray, List.set_cons_succ, List.set_cons_zero]
      refine wpAnyH_take (i := 8) (v := .agg (encIK .i64 (o32 k x)).toArray) rfl (by kernel_rfl) (by kernel_rfl) (by kernel_rfl) (fun _ _ _ h => h) (yieldsIf_build (by rfl) 45 #[(0, .tmp 36), (1, .tmp 37)] rfl _ ((congrArg (Try.prog.built 45) (show _ = [(0, Value.int .i64 (v32 x).1), (1, Value.agg (encK k).toArray)] by kernel_rfl)).trans (built_IK _ rfl k (v32 x)))) hS ?_
      simp only [Act.put, List.getElem_toArray, List.getElem_cons_zero, List.getElem_cons_succ, List.setIfInBounds_toArray, List.set_cons_succ, List.set_cons_zero]
      refine wpAnyH_ready (rs := [1, 9]) (by kernel_rfl) (by simp) ?_
      refine AllReadyH.cons rfl (fun Kq hK => ?_) (AllReadyH.cons rfl (fun Kq hK => ?_) AllReadyH.nil)
      · refine step_load_one (by rfl) 24 (.tmp 30) rfl ⟨gi + 1, 2, none⟩ rfl (.slice A ((zs.take j).map (o32 k)).length c) Try.isAgg24 (TxA.c2 (RowC.of_blk (AH.out.at (x := (gi + 1, 29, (bA z gi ((zs.take j).map (o32 k)) A c [] none 0 [] none 0).cells.toArray)) (by simp)))) ?_
        refine hK.out _ _ hS (fun hS => ?_)
        clear hK Kq
        try simp only [Act.put, List.getElem_toArray, List.getElem_cons_zero, List.getElem_cons_succ, List.setIfInBounds_toArray, List.set_cons_succ, List.set_cons_zero]
        refine wpAnyH_ready (rs := [9]) (by kernel_rfl) (by simp) ?_
        refine AllReadyH.cons rfl (fun Kq hK => ?_) AllReadyH.nil
        refine tyOut.step_build rfl bzsO 1 _ rfl [o32 k x] rfl (by omega) (by omega) (by kernel_rfl) ?_
        have E1 := Lib.hid (show Below wd.heap.size wd (wd.alloc (.cells (cellsOf (encIK .i64) [o32 k x]).toArray 45)) from (Below.refl _ _).alloc (Nat.le_refl _) _)
        have BH := Lib.hid (show Holds w ((gi + 1, 29, (bA z gi ((zs.take j).map (o32 k)) A c [] none 0 [] none 0).cells.toArray) :: (gi, 40, bP z) :: [(w.heap.size, 26, (encK k).toArray)]) (wd.alloc (.cells (cellsOf (encIK .i64) [o32 k x]).toArray 45)) from AH.out.alloc _)
        have BO := Lib.hid (show World.ownsRow (wd.alloc (.cells (cellsOf (encIK .i64) [o32 k x]).toArray 45)) (gi + 2) 45 33 (.slice A ((zs.take j).map (o32 k)).length c) ((zs.take j).map (o32 k)).length (cellsOf (encIK .i64) ((zs.take j).map (o32 k))) from AO.out.alloc _)
        have BK := Lib.hid (show Blk (wd.alloc (.cells (cellsOf (encIK .i64) [o32 k x]).toArray 45)) wd.heap.size 45 (cellsOf (encIK .i64) [o32 k x]).toArray from Blk.new wd 45 _)
        refine hK.out _ _ (KS.out _ E1.out) (fun hS => ?_)
        clear hK Kq
        try simp only [Act.put, List.getElem_toArray, List.getElem_cons_zero, List.getElem_cons_succ, List.setIfInBounds_toArray, List.set_cons_succ, List.set_cons_zero]
        refine wpAnyH_ready (rs := [10]) (by kernel_rfl) (by simp) ?_
        refine AllReadyH.cons rfl (fun Kq hK => ?_) AllReadyH.nil
        refine tyOut.step_append rfl zcOut 40 zbOut (by omega) (.tmp 31) (.tmp 39) rfl (gi + 2) _ ((zs.take j).map (o32 k)) rfl BO.out _ _ 1 [o32 k x] rfl (rowIn_blk BK.out (by simp) (by decide)) HLL.out (by have := AG.out; simp; omega) ?_
        intro v5 w5 p5 g5
        rw [HTS.out] at p5
        have E5 := bown_grown BO.out g5 (by have := AG.out; simp; omega)
        have H5 := Lib.hid (show Holds w ((gi + 1, 29, (bA z gi ((zs.take j).map (o32 k)) A c [] none 0 [] none 0).cells.toArray) :: (gi, 40, bP z) :: [(w.heap.size, 26, (encK k).toArray)]) w5 from BH.out.low E5 (by have := G3.out; omega) (by have := G3.out; simp; omega))
        have X5 := Lib.hid (show BsS w k g (o + j * 1) x w5 from ⟨((KS.out _ E1.out).x).below E5 (by have := HG.out; have := G3.out; omega), RowC.of_blk (H5.out.at (x := (w.heap.size, 26, (encK k).toArray)) (by simp))⟩)
        obtain ⟨A5, c5, rfl, _⟩ := RowIn.of_own (encIK_len _) p5
        have O5 := Lib.hid p5
        refine hK.out _ _ X5.out (fun hS => ?_)
        clear hK Kq p5 g5 E5 BO BH BK
        try simp only [Act.put, List.getElem_toArray, List.getElem_cons_zero, List.getElem_cons_succ, List.setIfInBounds_toArray, List.set_cons_succ, List.set_cons_zero]
        refine wpAnyH_take (i := 11) (v := .pointer (some ⟨gi + 1, 2, none⟩)) rfl (by kernel_rfl) (by kernel_rfl) (by kernel_rfl) (fun _ _ _ h => h) (Or.inl ⟨by rfl, fun W _ => by go_simp; try with_reducible rfl⟩) hS ?_
        simp only [Act.put, List.getElem_toArray, List.getElem_cons_zero, List.getElem_cons_succ, List.setIfInBounds_toArray, List.set_cons_succ, List.set_cons_zero]
        refine wpAnyH_ready (rs := [12]) (by kernel_rfl) (by simp) ?_
        refine AllReadyH.cons rfl (fun Kq hK => ?_) AllReadyH.nil
        refine step_store_cell rfl 24 (.tmp 41) (.tmp 40) rfl rfl (gi + 1) 2 (.slice A5 ((zs.take (j + 1)).map (o32 k)).length c5) rfl rfl rfl 29 (bA z gi ((zs.take j).map (o32 k)) A c [] none 0 [] none 0).cells.toArray (H5.out.at (x := (gi + 1, 29, (bA z gi ((zs.take j).map (o32 k)) A c [] none 0 [] none 0).cells.toArray)) (by simp)) (by rw [tyTx.arr]; omega) (by kernel_rfl) ?_
        intro w6 o6 b6
        have H6 := Lib.hid (H5.out.turn o6 (cs' := (bA z gi ((zs.take (j + 1)).map (o32 k)) A5 c5 [] none 0 [] none 0).cells.toArray) (bA_outs z gi ((zs.take j).map (o32 k)) ((zs.take (j + 1)).map (o32 k)) A A5 c c5 ▸ b6) (by have := G3.out; omega) (by have := G3.out; simp; omega))
        have O6 := Lib.hid (bown_keep O5.out o6 (by simp))
        refine hK.out _ _ ⟨X5.out.x.cOnly o6 (by have := HG.out; have := G3.out; simp; omega), RowC.of_blk (H6.out.at (x := (w.heap.size, 26, (encK k).toArray)) (by simp))⟩ (fun _ => ?_)
        clear hK Kq hS o6 b6 H5 O5 X5
        refine wpAnyH_done (by kernel_rfl) ?_ _
        go_wp2_with fail
        go_roundw
        case rel => exact ⟨j + 1, A5, c5, by go_num, HJ.out, H6, O6⟩
        case measure => simp [intOf]; omega
      · refine tyOut.step_build rfl bzsO 1 _ rfl [o32 k x] rfl (by omega) (by omega) (by kernel_rfl) ?_
        have E1 := Lib.hid (show Below wd.heap.size wd (wd.alloc (.cells (cellsOf (encIK .i64) [o32 k x]).toArray 45)) from (Below.refl _ _).alloc (Nat.le_refl _) _)
        have BH := Lib.hid (show Holds w ((gi + 1, 29, (bA z gi ((zs.take j).map (o32 k)) A c [] none 0 [] none 0).cells.toArray) :: (gi, 40, bP z) :: [(w.heap.size, 26, (encK k).toArray)]) (wd.alloc (.cells (cellsOf (encIK .i64) [o32 k x]).toArray 45)) from AH.out.alloc _)
        have BO := Lib.hid (show World.ownsRow (wd.alloc (.cells (cellsOf (encIK .i64) [o32 k x]).toArray 45)) (gi + 2) 45 33 (.slice A ((zs.take j).map (o32 k)).length c) ((zs.take j).map (o32 k)).length (cellsOf (encIK .i64) ((zs.take j).map (o32 k))) from AO.out.alloc _)
        have BK := Lib.hid (show Blk (wd.alloc (.cells (cellsOf (encIK .i64) [o32 k x]).toArray 45)) wd.heap.size 45 (cellsOf (encIK .i64) [o32 k x]).toArray from Blk.new wd 45 _)
        refine hK.out _ _ (KS.out _ E1.out) (fun hS => ?_)
        clear hK Kq
        try simp only [Act.put, List.getElem_toArray, List.getElem_cons_zero, List.getElem_cons_succ, List.setIfInBounds_toArray, List.set_cons_succ, List.set_cons_zero]
        refine wpAnyH_ready (rs := [1]) (by kernel_rfl) (by simp) ?_
        refine AllReadyH.cons rfl (fun Kq hK => ?_) AllReadyH.nil
        refine step_load_one (by rfl) 24 (.tmp 30) rfl ⟨gi + 1, 2, none⟩ rfl (.slice A ((zs.take j).map (o32 k)).length c) Try.isAgg24 (TxA.c2 (RowC.of_blk (BH.out.at (x := (gi + 1, 29, (bA z gi ((zs.take j).map (o32 k)) A c [] none 0 [] none 0).cells.toArray)) (by simp)))) ?_
        refine hK.out _ _ hS (fun hS => ?_)
        clear hK Kq
        try simp only [Act.put, List.getElem_toArray, List.getElem_cons_zero, List.getElem_cons_succ, List.setIfInBounds_toArray, List.set_cons_succ, List.set_cons_zero]
        refine wpAnyH_ready (rs := [10]) (by kernel_rfl) (by simp) ?_
        refine AllReadyH.cons rfl (fun Kq hK => ?_) AllReadyH.nil
        refine tyOut.step_append rfl zcOut 40 zbOut (by omega) (.tmp 31) (.tmp 39) rfl (gi + 2) _ ((zs.take j).map (o32 k)) rfl BO.out _ _ 1 [o32 k x] rfl (rowIn_blk BK.out (by simp) (by decide)) HLL.out (by have := AG.out; simp; omega) ?_
        intro v5 w5 p5 g5
        rw [HTS.out] at p5
        have E5 := bown_grown BO.out g5 (by have := AG.out; simp; omega)
        have H5 := Lib.hid (show Holds w ((gi + 1, 29, (bA z gi ((zs.take j).map (o32 k)) A c [] none 0 [] none 0).cells.toArray) :: (gi, 40, bP z) :: [(w.heap.size, 26, (encK k).toArray)]) w5 from BH.out.low E5 (by have := G3.out; omega) (by have := G3.out; simp; omega))
        have X5 := Lib.hid (show BsS w k g (o + j * 1) x w5 from ⟨((KS.out _ E1.out).x).below E5 (by have := HG.out; have := G3.out; omega), RowC.of_blk (H5.out.at (x := (w.heap.size, 26, (encK k).toArray)) (by simp))⟩)
        obtain ⟨A5, c5, rfl, _⟩ := RowIn.of_own (encIK_len _) p5
        have O5 := Lib.hid p5
        refine hK.out _ _ X5.out (fun hS => ?_)
        clear hK Kq p5 g5 E5 BO BH BK
        try simp only [Act.put, List.getElem_toArray, List.getElem_cons_zero, List.getElem_cons_succ, List.setIfInBounds_toArray, List.set_cons_succ, List.set_cons_zero]
        refine wpAnyH_take (i := 11) (v := .pointer (some ⟨gi + 1, 2, none⟩)) rfl (by kernel_rfl) (by kernel_rfl) (by kernel_rfl) (fun _ _ _ h => h) (Or.inl ⟨by rfl, fun W _ => by go_simp; try with_reducible rfl⟩) hS ?_
        simp only [Act.put, List.getElem_toArray, List.getElem_cons_zero, List.getElem_cons_succ, List.setIfInBounds_toArray, List.set_cons_succ, List.set_cons_zero]
        refine wpAnyH_ready (rs := [12]) (by kernel_rfl) (by simp) ?_
        refine AllReadyH.cons rfl (fun Kq hK => ?_) AllReadyH.nil
        refine step_store_cell rfl 24 (.tmp 41) (.tmp 40) rfl rfl (gi + 1) 2 (.slice A5 ((zs.take (j + 1)).map (o32 k)).length c5) rfl rfl rfl 29 (bA z gi ((zs.take j).map (o32 k)) A c [] none 0 [] none 0).cells.toArray (H5.out.at (x := (gi + 1, 29, (bA z gi ((zs.take j).map (o32 k)) A c [] none 0 [] none 0).cells.toArray)) (by simp)) (by rw [tyTx.arr]; omega) (by kernel_rfl) ?_
        intro w6 o6 b6
        have H6 := Lib.hid (H5.out.turn o6 (cs' := (bA z gi ((zs.take (j + 1)).map (o32 k)) A5 c5 [] none 0 [] none 0).cells.toArray) (bA_outs z gi ((zs.take j).map (o32 k)) ((zs.take (j + 1)).map (o32 k)) A A5 c c5 ▸ b6) (by have := G3.out; omega) (by have := G3.out; simp; omega))
        have O6 := Lib.hid (bown_keep O5.out o6 (by simp))
        refine hK.out _ _ ⟨X5.out.x.cOnly o6 (by have := HG.out; have := G3.out; simp; omega), RowC.of_blk (H6.out.at (x := (w.heap.size, 26, (encK k).toArray)) (by simp))⟩ (fun _ => ?_)
        clear hK Kq hS o6 b6 H5 O5 X5
        refine wpAnyH_done (by kernel_rfl) ?_ _
        go_wp2_with fail
        go_roundw
        case rel => exact ⟨j + 1, A5, c5, by go_num, HJ.out, H6, O6⟩
        case measure => simp [intOf]; omega
    · have hd : decide ((j : Int) < (zs.length : Int)) = false := by simp; omega
      obtain rfl : j = zs.length := by omega
      obtain ⟨O, hO⟩ : ∃ O, zs.map (o32 k) = O := ⟨_, rfl⟩
      have H5 := Lib.hid (show Holds w ((gi + 1, 29, (bA z gi (O) A c [] none 0 [] none 0).cells.toArray) :: (gi, 40, bP z) :: [(w.heap.size, 26, (encK k).toArray)]) wr from by have := H4.out; rw [List.take_of_length_le (Nat.le_refl _), hO] at this; exact this)
      have O5 := Lib.hid (show World.ownsRow wr (gi + 2) 45 33 (.slice A (O).length c) (O).length (cellsOf (encIK .i64) (O)) from by
        have := O4.out
        rw [List.take_of_length_le (Nat.le_refl _), hO] at this
        exact this)
      have HOL := Lib.hid (show O.length ≤ 30 by rw [← hO, List.length_map]; exact HN.out)
      have HSM := Lib.hid (show Some120 (bT z O [] []) from ⟨show ([((zeroKey, z) : PtC)]).length ≤ 120 by simp, show O.length ≤ 120 by have := HOL.out; omega, show ([] : List K32).length ≤ 120 by simp, show ([] : List K32).length ≤ 120 by simp⟩)
      clear H4 O4 hj
      by_cases h0 : zs.length = 0
      · have HO0 := Lib.hid (show O.length = 0 by rw [← hO, List.length_map]; exact h0)
        obtain rfl : zs = [] := List.eq_nil_of_length_eq_zero h0
        clear hO h0
        have C1 := Lib.hid (show ∀ W, Holds w ((gi + 1, 29, (bA z gi (O) A c [] none 0 [] none 0).cells.toArray) :: (gi, 40, bP z) :: [(w.heap.size, 26, (encK k).toArray)]) W → World.ownsRow W (gi + 2) 45 33 (.slice A (O).length c) (O).length (cellsOf (encIK .i64) (O)) → Calls Try.prog 13 #[.agg (bA z gi (O) A c [] none 0 [] none 0).cells.toArray, .bool true] W fun e w' => e = .returned (.int .i64 110) ∧ Below W.heap.size W w' from fun W h1 h2 => by
          have h3 := HCK (bA z gi (O) A c [] none 0 [] none 0) true W (bA_in (h1.at (x := (gi, 40, bP z)) (by simp)) (bown_row h2) (RowIn.nil (Nat.zero_le _)) (RowIn.nil (Nat.zero_le _))) HSM.out
          rw [show checkF (bA z gi (O) A c [] none 0 [] none 0).T true = 110 from base_none z O HO0.out] at h3
          exact h3)
        go_wp2_with (first
          | ((with_reducible refine at_load 9 ?_); refine tyTx.wpList_load rfl (.tmp 9) rfl (gi + 1) 0 rfl (bA z gi (O) A c [] none 0 [] none 0) (RowC.of_blk (H5.out.at (x := (gi + 1, 29, (bA z gi (O) A c [] none 0 [] none 0).cells.toArray)) (by simp))) ?_))
        with_reducible refine (C1.out _ H5.out O5.out).mono ?_
        rintro e x1 ⟨rfl, bq⟩
        have H6 := Lib.hid (H5.out.call bq)
        have O6 := Lib.hid (bown_call O5.out bq)
        clear bq H5 O5 C1
        have HC3 := Lib.hid (show ∀ (W : World) (p q : Nat), (bA z gi O A c [k] (some ⟨p, 0, none⟩) 1 [k] (some ⟨q, 0, none⟩) 1).In W W.heap.size → Calls Try.prog 13 #[.agg (bA z gi O A c [k] (some ⟨p, 0, none⟩) 1 [k] (some ⟨q, 0, none⟩) 1).cells.toArray, .bool true] W fun e w' => e = .returned (.int .i64 112) ∧ Below W.heap.size W w' from fun W p q h1 => by
          have h3 := HCK (bA z gi O A c [k] (some ⟨p, 0, none⟩) 1 [k] (some ⟨q, 0, none⟩) 1) true W h1 ⟨show ([((zeroKey, z) : PtC)]).length ≤ 120 by simp, show O.length ≤ 120 by have := HOL.out; omega, show ([k] : List K32).length ≤ 120 by simp, show ([k] : List K32).length ≤ 120 by simp⟩
          rw [show checkF (bA z gi O A c [k] (some ⟨p, 0, none⟩) 1 [k] (some ⟨q, 0, none⟩) 1).T true = 112 from base_nulls z O k HOL.out] at h3
          exact h3)
        clear HCK
        have GX := Lib.hid (show gi + 1 < x1.heap.size from H6.out.lt (x := (gi + 1, 29, (bA z gi (O) A c [] none 0 [] none 0).cells.toArray)) (by simp))
        go_wp2_with (first
          | ((with_reducible refine at_load 6 ?_); refine tyKc.wpList_load rfl (.tmp 6) rfl (w.heap.size) 0 rfl k (RowC.of_blk (H6.out.at (x := (w.heap.size, 26, (encK k).toArray)) (by simp))) ?_)
          | ((with_reducible refine at_load 6 ?_); refine tyKc.wpList_load rfl (.tmp 6) rfl (w.heap.size) 0 rfl k (RowC.of_blk (H7.out.at (x := (w.heap.size, 26, (encK k).toArray)) (by simp))) ?_)
          | ((with_reducible refine at_buildSlice 60 ?_); refine tyKy.wpList_build rfl bzsK 1 _ rfl [k] rfl (by omega) (by omega) (by kernel_rfl) ?_)
          | ((with_reducible refine at_buildSlice 63 ?_); refine tyKy.wpList_build rfl bzsK 1 _ rfl [k] rfl (by omega) (by omega) (by kernel_rfl) ?_)
          | ((with_reducible refine at_store 61 60 ?_); refine wpList_store_cell rfl 27 (.tmp 61) (.tmp 60) rfl rfl (gi + 1) 35 (.slice (some ⟨x1.heap.size, 0, none⟩) 1 1) rfl rfl rfl 29 (bA z gi (O) A c [] none 0 [] none 0).cells.toArray ((H6.out.alloc (.cells (cellsOf encK [k]).toArray 26)).at (x := (gi + 1, 29, (bA z gi (O) A c [] none 0 [] none 0).cells.toArray)) (by simp)) (by rw [tyTx.arr]; omega) (by kernel_rfl) ?_; intro w7 o7 b7
             have H7 := Lib.hid ((H6.out.alloc (.cells (cellsOf encK [k]).toArray 26)).turn o7 (cs' := (bA z gi O A c [k] (some ⟨x1.heap.size, 0, none⟩) 1 [] none 0).cells.toArray) (bA_nulls z gi O A c k (some ⟨x1.heap.size, 0, none⟩) 1 ▸ b7) (by have := G3.out; omega) (by have := G3.out; simp; omega))
             have N7 := Lib.hid (o7.blk (Blk.new x1 26 (cellsOf encK [k]).toArray) (by have := GX.out; simp; omega))
             have O7 := Lib.hid (bown_keep (O6.out.alloc (.cells (cellsOf encK [k]).toArray 26)) o7 (by simp))
             clear o7 b7 H6 O6)
          | ((with_reducible refine at_store 64 63 ?_); refine wpList_store_cell rfl 27 (.tmp 64) (.tmp 63) rfl rfl (gi + 1) 36 (.slice (some ⟨w7.heap.size, 0, none⟩) 1 1) rfl rfl rfl 29 (bA z gi O A c [k] (some ⟨x1.heap.size, 0, none⟩) 1 [] none 0).cells.toArray ((H7.out.alloc (.cells (cellsOf encK [k]).toArray 26)).at (x := (gi + 1, 29, (bA z gi O A c [k] (some ⟨x1.heap.size, 0, none⟩) 1 [] none 0).cells.toArray)) (by simp)) (by rw [tyTx.arr]; omega) (by kernel_rfl) ?_; intro w8 o8 b8
             have G7 := Lib.hid (show gi + 1 < w7.heap.size from H7.out.lt (x := (gi + 1, 29, (bA z gi O A c [k] (some ⟨x1.heap.size, 0, none⟩) 1 [] none 0).cells.toArray)) (by simp))
             have H8 := Lib.hid ((H7.out.alloc (.cells (cellsOf encK [k]).toArray 26)).turn o8 (cs' := (bA z gi O A c [k] (some ⟨x1.heap.size, 0, none⟩) 1 [k] (some ⟨w7.heap.size, 0, none⟩) 1).cells.toArray) (bA_notes z gi O A c k (some ⟨x1.heap.size, 0, none⟩) 1 (some ⟨w7.heap.size, 0, none⟩) 1 ▸ b8) (by have := G3.out; omega) (by have := G3.out; simp; omega))
             have N8 := Lib.hid (o8.blk (below_blk ((Below.refl w7.heap.size w7).alloc (Nat.le_refl _) (.cells (cellsOf encK [k]).toArray 26)) N7.out N7.out.lt) (by have := GX.out; simp; omega))
             have M8 := Lib.hid (o8.blk (Blk.new w7 26 (cellsOf encK [k]).toArray) (by have := G7.out; simp; omega))
             have O8 := Lib.hid (bown_keep (O7.out.alloc (.cells (cellsOf encK [k]).toArray 26)) o8 (by simp))
             clear o8 b8 H7 N7 O7)
          | ((with_reducible refine at_load 9 ?_); refine tyTx.wpList_load rfl (.tmp 9) rfl (gi + 1) 0 rfl (bA z gi O A c [k] (some ⟨x1.heap.size, 0, none⟩) 1 [k] (some ⟨w7.heap.size, 0, none⟩) 1) (RowC.of_blk (H8.out.at (x := (gi + 1, 29, (bA z gi O A c [k] (some ⟨x1.heap.size, 0, none⟩) 1 [k] (some ⟨w7.heap.size, 0, none⟩) 1).cells.toArray)) (by simp))) ?_))
        with_reducible refine (HC3.out _ _ _ (bA_in (H8.out.at (x := (gi, 40, bP z)) (by simp)) (bown_row O8.out) ((rowIn_blk (c := 1) (l := [k]) N8.out (by simp) (by decide)).more (Nat.succ_le_of_lt N8.out.lt)) ((rowIn_blk (c := 1) (l := [k]) M8.out (by simp) (by decide)).more (Nat.succ_le_of_lt M8.out.lt)))).mono ?_
        rintro e w9 ⟨rfl, bq⟩
        have B9 := Lib.hid (H8.out.below.trans (bq.mono H8.out.below.size))
        clear bq
        go_wp2_with fail
        go_ret
        exact ⟨by first | rfl | simp, B9.out⟩
      · have h00 : 0 < zs.length := by omega
        have HO0 := Lib.hid (show checkF (bT z O [] []) true = 0 from hO ▸ base_ok z k zs HN.out h00)
        have HO1 := Lib.hid (show 0 < O.length by rw [← hO, List.length_map]; exact h00)
        clear hO h0
        have e0 : ((zs.length : Int) == 0) = false := beq_eq_false_iff_ne.mpr (by omega)
        have hdI : decide ((0 : Int) < (zs.length : Int)) = true := decide_eq_true (by omega)
        have C1 := Lib.hid (show ∀ W, Holds w ((gi + 1, 29, (bA z gi (O) A c [] none 0 [] none 0).cells.toArray) :: (gi, 40, bP z) :: [(w.heap.size, 26, (encK k).toArray)]) W → World.ownsRow W (gi + 2) 45 33 (.slice A (O).length c) (O).length (cellsOf (encIK .i64) (O)) → Calls Try.prog 13 #[.agg (bA z gi (O) A c [] none 0 [] none 0).cells.toArray, .bool true] W fun e w' => e = .returned (.int .i64 0) ∧ Below W.heap.size W w' from fun W h1 h2 => by
          have h3 := HCK (bA z gi (O) A c [] none 0 [] none 0) true W (bA_in (h1.at (x := (gi, 40, bP z)) (by simp)) (bown_row h2) (RowIn.nil (Nat.zero_le _)) (RowIn.nil (Nat.zero_le _))) HSM.out
          rw [show checkF (bA z gi (O) A c [] none 0 [] none 0).T true = 0 from HO0.out] at h3
          exact h3)
        have C2 := Lib.hid (show ∀ W, Holds w ((gi + 1, 29, (bA z gi (O) A c [] none 0 [] none 0).cells.toArray) :: (gi, 40, bP z) :: [(w.heap.size, 26, (encK k).toArray)]) W → World.ownsRow W (gi + 2) 45 33 (.slice A (O).length c) (O).length (cellsOf (encIK .i64) (O)) → Calls Try.prog 13 #[.agg (bA z gi (O) A c [] none 0 [] none 0).cells.toArray, .bool false] W fun e w' => e = .returned (.int .i64 112) ∧ Below W.heap.size W w' from fun W h1 h2 => by
          have h3 := HCK (bA z gi (O) A c [] none 0 [] none 0) false W (bA_in (h1.at (x := (gi, 40, bP z)) (by simp)) (bown_row h2) (RowIn.nil (Nat.zero_le _)) (RowIn.nil (Nat.zero_le _))) HSM.out
          rw [show checkF (bA z gi (O) A c [] none 0 [] none 0).T false = 112 from base_not z O HOL.out HO1.out] at h3
          exact h3)
        go_wp2_with (first
          | ((with_reducible refine at_load 9 ?_); refine tyTx.wpList_load rfl (.tmp 9) rfl (gi + 1) 0 rfl (bA z gi (O) A c [] none 0 [] none 0) (RowC.of_blk (H5.out.at (x := (gi + 1, 29, (bA z gi (O) A c [] none 0 [] none 0).cells.toArray)) (by simp))) ?_))
        with_reducible refine (C1.out _ H5.out O5.out).mono ?_
        rintro e x1 ⟨rfl, bq⟩
        have H6 := Lib.hid (H5.out.call bq)
        have O6 := Lib.hid (bown_call O5.out bq)
        clear bq H5 O5 C1
        go_wp2_with (first
          | ((with_reducible refine at_loadg 9 ?_); refine tyTx.wpList_load (by rfl) (.tmp 9) rfl (gi + 1) 0 rfl (bA z gi (O) A c [] none 0 [] none 0) (RowC.of_blk (H6.out.at (x := (gi + 1, 29, (bA z gi (O) A c [] none 0 [] none 0).cells.toArray)) (by simp))) ?_))
        with_reducible refine (C2.out _ H6.out O6.out).mono ?_
        rintro e x2 ⟨rfl, bq⟩
        have H6b := Lib.hid (H6.out.call bq)
        have O6b := Lib.hid (bown_call O6.out bq)
        clear bq H6 O6 C2
        have HC3 := Lib.hid (show ∀ (W : World) (p q : Nat), (bA z gi O A c [k] (some ⟨p, 0, none⟩) 1 [k] (some ⟨q, 0, none⟩) 1).In W W.heap.size → Calls Try.prog 13 #[.agg (bA z gi O A c [k] (some ⟨p, 0, none⟩) 1 [k] (some ⟨q, 0, none⟩) 1).cells.toArray, .bool true] W fun e w' => e = .returned (.int .i64 112) ∧ Below W.heap.size W w' from fun W p q h1 => by
          have h3 := HCK (bA z gi O A c [k] (some ⟨p, 0, none⟩) 1 [k] (some ⟨q, 0, none⟩) 1) true W h1 ⟨show ([((zeroKey, z) : PtC)]).length ≤ 120 by simp, show O.length ≤ 120 by have := HOL.out; omega, show ([k] : List K32).length ≤ 120 by simp, show ([k] : List K32).length ≤ 120 by simp⟩
          rw [show checkF (bA z gi O A c [k] (some ⟨p, 0, none⟩) 1 [k] (some ⟨q, 0, none⟩) 1).T true = 112 from base_nulls z O k HOL.out] at h3
          exact h3)
        clear HCK
        have GX := Lib.hid (show gi + 1 < x2.heap.size from H6b.out.lt (x := (gi + 1, 29, (bA z gi (O) A c [] none 0 [] none 0).cells.toArray)) (by simp))
        go_wp2_with (first
          | ((with_reducible refine at_load 6 ?_); refine tyKc.wpList_load rfl (.tmp 6) rfl (w.heap.size) 0 rfl k (RowC.of_blk (H6b.out.at (x := (w.heap.size, 26, (encK k).toArray)) (by simp))) ?_)
          | ((with_reducible refine at_load 6 ?_); refine tyKc.wpList_load rfl (.tmp 6) rfl (w.heap.size) 0 rfl k (RowC.of_blk (H7.out.at (x := (w.heap.size, 26, (encK k).toArray)) (by simp))) ?_)
          | ((with_reducible refine at_buildSlice 60 ?_); refine tyKy.wpList_build rfl bzsK 1 _ rfl [k] rfl (by omega) (by omega) (by kernel_rfl) ?_)
          | ((with_reducible refine at_buildSlice 63 ?_); refine tyKy.wpList_build rfl bzsK 1 _ rfl [k] rfl (by omega) (by omega) (by kernel_rfl) ?_)
          | ((with_reducible refine at_store 61 60 ?_); refine wpList_store_cell rfl 27 (.tmp 61) (.tmp 60) rfl rfl (gi + 1) 35 (.slice (some ⟨x2.heap.size, 0, none⟩) 1 1) rfl rfl rfl 29 (bA z gi (O) A c [] none 0 [] none 0).cells.toArray ((H6b.out.alloc (.cells (cellsOf encK [k]).toArray 26)).at (x := (gi + 1, 29, (bA z gi (O) A c [] none 0 [] none 0).cells.toArray)) (by simp)) (by rw [tyTx.arr]; omega) (by kernel_rfl) ?_; intro w7 o7 b7
             have H7 := Lib.hid ((H6b.out.alloc (.cells (cellsOf encK [k]).toArray 26)).turn o7 (cs' := (bA z gi O A c [k] (some ⟨x2.heap.size, 0, none⟩) 1 [] none 0).cells.toArray) (bA_nulls z gi O A c k (some ⟨x2.heap.size, 0, none⟩) 1 ▸ b7) (by have := G3.out; omega) (by have := G3.out; simp; omega))
             have N7 := Lib.hid (o7.blk (Blk.new x2 26 (cellsOf encK [k]).toArray) (by have := GX.out; simp; omega))
             have O7 := Lib.hid (bown_keep (O6b.out.alloc (.cells (cellsOf encK [k]).toArray 26)) o7 (by simp))
             clear o7 b7 H6b O6b)
          | ((with_reducible refine at_store 64 63 ?_); refine wpList_store_cell rfl 27 (.tmp 64) (.tmp 63) rfl rfl (gi + 1) 36 (.slice (some ⟨w7.heap.size, 0, none⟩) 1 1) rfl rfl rfl 29 (bA z gi O A c [k] (some ⟨x2.heap.size, 0, none⟩) 1 [] none 0).cells.toArray ((H7.out.alloc (.cells (cellsOf encK [k]).toArray 26)).at (x := (gi + 1, 29, (bA z gi O A c [k] (some ⟨x2.heap.size, 0, none⟩) 1 [] none 0).cells.toArray)) (by simp)) (by rw [tyTx.arr]; omega) (by kernel_rfl) ?_; intro w8 o8 b8
             have G7 := Lib.hid (show gi + 1 < w7.heap.size from H7.out.lt (x := (gi + 1, 29, (bA z gi O A c [k] (some ⟨x2.heap.size, 0, none⟩) 1 [] none 0).cells.toArray)) (by simp))
             have H8 := Lib.hid ((H7.out.alloc (.cells (cellsOf encK [k]).toArray 26)).turn o8 (cs' := (bA z gi O A c [k] (some ⟨x2.heap.size, 0, none⟩) 1 [k] (some ⟨w7.heap.size, 0, none⟩) 1).cells.toArray) (bA_notes z gi O A c k (some ⟨x2.heap.size, 0, none⟩) 1 (some ⟨w7.heap.size, 0, none⟩) 1 ▸ b8) (by have := G3.out; omega) (by have := G3.out; simp; omega))
             have N8 := Lib.hid (o8.blk (below_blk ((Below.refl w7.heap.size w7).alloc (Nat.le_refl _) (.cells (cellsOf encK [k]).toArray 26)) N7.out N7.out.lt) (by have := GX.out; simp; omega))
             have M8 := Lib.hid (o8.blk (Blk.new w7 26 (cellsOf encK [k]).toArray) (by have := G7.out; simp; omega))
             have O8 := Lib.hid (bown_keep (O7.out.alloc (.cells (cellsOf encK [k]).toArray 26)) o8 (by simp))
             clear o8 b8 H7 N7 O7)
          | ((with_reducible refine at_load 9 ?_); refine tyTx.wpList_load rfl (.tmp 9) rfl (gi + 1) 0 rfl (bA z gi O A c [k] (some ⟨x2.heap.size, 0, none⟩) 1 [k] (some ⟨w7.heap.size, 0, none⟩) 1) (RowC.of_blk (H8.out.at (x := (gi + 1, 29, (bA z gi O A c [k] (some ⟨x2.heap.size, 0, none⟩) 1 [k] (some ⟨w7.heap.size, 0, none⟩) 1).cells.toArray)) (by simp))) ?_))
        with_reducible refine (HC3.out _ _ _ (bA_in (H8.out.at (x := (gi, 40, bP z)) (by simp)) (bown_row O8.out) ((rowIn_blk (c := 1) (l := [k]) N8.out (by simp) (by decide)).more (Nat.succ_le_of_lt N8.out.lt)) ((rowIn_blk (c := 1) (l := [k]) M8.out (by simp) (by decide)).more (Nat.succ_le_of_lt M8.out.lt)))).mono ?_
        rintro e w9 ⟨rfl, bq⟩
        have B9 := Lib.hid (H8.out.below.trans (bq.mono H8.out.below.size))
        clear bq
        go_wp2_with fail
        go_ret
        exact ⟨by first | rfl | simp, B9.out⟩
theorem chBase_walk (HCK : ChkTOk) (HPO : PointsOk) (z : IntV .u32) (A0 : Option Addr) (c0 : Nat) (zs : List (IntV .u32)) (k : K32) (s : Bool) (w : World) (hz : RowIn (enc1 .u32) 1 w w.heap.size A0 c0 zs) :
    Calls Try.prog 7 #[.int .u32 z.1, .slice A0 zs.length c0, .agg (encK k).toArray, .bool s] w fun e w' => e = .returned (.bool true) ∧ Below w.heap.size w w' := by
  by_cases hn : zs.length ≤ 30
  · exact chBase_m HCK HPO z A0 c0 zs k s w hz hn
  · exact chBase_many HCK HPO z A0 c0 zs k s w hz (by omega)
end Go.Proofs.Yticphjnabecanaa
