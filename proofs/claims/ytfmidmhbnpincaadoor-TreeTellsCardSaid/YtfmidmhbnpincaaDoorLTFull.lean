/- TreeFull's walk. Written by genL7d.py. -/
import Derived.Test.YtfmidmhbnpincaaDoorLTEmpty
namespace Go.Proofs.YtfmidmhbnpincaaDoor
open Go.RowKit
/-- an array of three keys -/
structure E3 where
  l : List K32
  h : l.length = 3
def E3.cells (x : E3) : List Value := cellsOf encK x.l
theorem E3.len (x : E3) : x.cells.length = 96 := by unfold E3.cells; rw [cellsOf_len encK_len, x.h]
theorem E3.one (x : E3) : ∀ v ∈ x.cells, v.oneCell' = true := cellsOf_all1 encK_one _
theorem E3.at (x : E3) {w : World} {g : Nat} (h : RowC w g 0 x.cells) (i : Nat) (hi : i < 3) : RowC w g (i * 32) (encK (x.l.getD i zeroKey)) := by
  have := rowC_key h i (by rw [x.h]; exact hi)
  rw [Nat.zero_add] at this
  rw [List.getD_eq_getElem?_getD, List.getElem?_eq_getElem (by rw [x.h]; exact hi)]
  exact this
/-- the full tree but one, its parts up to n filled -/
def fT (L : List K32) (n : Nat) : TrV := ⟨4294967294, (List.range 32).map fun j => if 0 < j ∧ j < n then L.getD (j % 3) zeroKey else zeroKey, by decide, by simp⟩
def f0 : TrV := ⟨4294967294, List.replicate 32 zeroKey, by decide, by simp⟩
theorem fT_one (L : List K32) : fT L 1 = f0 := by
  refine TrV.ext' ?_
  show TreeV.mk _ _ = TreeV.mk _ _
  congr 1
theorem fT_set (L : List K32) (n : Nat) (h0 : 0 < n) (h : n < 32) : (fT L n).setP n (L.getD (n % 3) zeroKey) = fT L (n + 1) := by
  refine TrV.ext' ?_
  show TreeV.mk _ _ = TreeV.mk _ _
  congr 1
  apply List.ext_getElem?
  intro j
  show ((fT L n).P.set n (L.getD (n % 3) zeroKey))[j]? = (fT L (n + 1)).P[j]?
  simp only [fT]
  by_cases hj : j < 32
  · by_cases hn : j = n
    · subst hn
      rw [List.getElem?_set_self (by simpa using hj), List.getElem?_map, List.getElem?_range hj, Option.map_some, if_pos (by omega)]
    · rw [List.getElem?_set_ne (by omega), List.getElem?_map, List.getElem?_map, List.getElem?_range hj, Option.map_some, Option.map_some]
      congr 1
      by_cases h1 : 0 < j ∧ j < n
      · rw [if_pos h1, if_pos (by omega)]
      · rw [if_neg h1, if_neg (by omega)]
  · rw [List.getElem?_eq_none (by simp; omega), List.getElem?_eq_none (by simp; omega)]
theorem appT_even (t : TrV) (k : K32) (h : t.c = 4294967294) : ∃ u : TrV, appT t k = (u, 0) ∧ u.c = 4294967295 ∧ u.P = t.P.set 0 k := by
  refine ⟨⟨t.c + 1, t.P.set 0 k, by omega, by rw [List.length_set]; exact t.hP⟩, ?_, by show t.c + 1 = _; omega, rfl⟩
  unfold appT
  rw [dif_neg (by omega)]
  congr 1
  refine TrV.ext' ?_
  show TreeV.mk _ _ = TreeV.mk _ _
  congr 1
  show carryV pairK zeroKey t.c (31 + 1) 0 t.P k = _
  unfold carryV
  rw [if_neg (by rw [h]; decide)]
theorem allT_two (t u : TrV) (k : K32) (h1 : appT t k = (u, 0)) (h2 : u.c = 4294967295) : allT t [k, k] = (zT, 2) := by
  unfold allT
  rw [h1]
  rw [if_pos rfl]
  unfold allT
  rw [appT_full k h2]
  rw [if_neg (by decide)]
theorem zsKy : ((Tryd.prog.info? 24).bind (·.zero)).isSome = true := by kernel_rfl
theorem tyE3 : CellTy Tryd.prog 51 E3.cells 96 := ⟨by kernel_rfl, E3.len, E3.one, Tryd.isAgg51⟩
theorem Holds.turn {w W W' : World} {L : List (Nat × TypeId × Array Value)} {g : Nat} {t t2 : TypeId} {c1 cs : Array Value} (h : Holds w ((g, t, c1) :: L) W) (o : Only [g] W W') (b : Blk W' g t2 cs) (hg : w.heap.size ≤ g) (hL : ∀ x ∈ L, x.1 ≠ g) : Holds w ((g, t2, cs) :: L) W' :=
  ⟨h.below.trans (o.below (by simpa using hg)), fun x hx => by
    rcases List.mem_cons.1 hx with rfl | hx
    · exact b
    · exact o.blk (h.blks x (List.mem_cons_of_mem _ hx)) (by have := hL x hx; simpa using this)⟩
set_option maxRecDepth 100000 in
set_option maxHeartbeats 4000000 in
theorem tfull_walk (HP : AppTOk) (HL : AllTOk) (E : E3) (k : K32) (w : World) (hR : Roots w) :
    Calls Tryd.prog 8 #[.agg E.cells.toArray, .agg (encK k).toArray] w fun e w' => e = .returned (.bool true) ∧ Below w.heap.size w w' := by
  have SH := Lib.hid (fun W h => tshown_any HP W h)
  unfold AppTOk at HP
  unfold AllTOk at HL
  obtain ⟨u, hu, huc, huP⟩ := appT_even (fT E.l 32) k rfl
  have HU := Lib.hid hu
  have HUC := Lib.hid huc
  have HUP := Lib.hid huP
  have HF := Lib.hid (appT_full k huc)
  have HA2 := Lib.hid (allT_two _ u k hu huc)
  have RR := Lib.hid (Roots.on hR)
  have H0 := Lib.hid (((Holds.nil w).box 51 E.cells.toArray).box 24 (encK k).toArray)
  rw [World.size_alloc] at H0
  obtain ⟨Z, hZ, hz, hzs, hzn⟩ := zero_of zeroTr_ok zT_size
  have HS := Lib.hid hzs
  have HZV := Lib.hid hz
  have HZN := Lib.hid hzn
  clear hu huc huP hR hZ hzs
  go_enter Tryd.func8, Tryd.ntmps8
  go_wp2_with (first
    | ((with_reducible refine at_build 13 ?_); refine wpList_built rfl 27 #[(0, .const (.int .u32 4294967294))] rfl f0.cells.toArray (by kernel_rfl) ?_)
    | ((with_reducible refine at_store 5 13 ?_); refine tyTr.wpList_store rfl (.tmp 5) (.tmp 13) rfl rfl (w.heap.size + 1 + 1) f0 rfl rfl 27 Z (by have := Blk.new ((w.alloc (.cells E.cells.toArray 51)).alloc (.cells (encK k).toArray 24)) 27 Z; simpa only [World.size_alloc] using this) (by rw [HS.out]) ?_; intro w1 o1 b1
       have H1 := Lib.hid (show Holds w ((w.heap.size + 1 + 1, 27, (fT E.l 1).cells.toArray) :: (w.heap.size + 1, 24, (encK k).toArray) :: (w.heap.size, 51, E.cells.toArray) :: []) w1 from by
         rw [fT_one]
         have e : ((w.alloc (.cells E.cells.toArray 51)).alloc (.cells (encK k).toArray 24)).heap.size = w.heap.size + 1 + 1 := by simp
         rw [← e] at o1 b1 ⊢
         exact H0.out.put o1 b1)
       clear o1 b1))
  go_loopw [6] (fun i wr => ∃ n : Nat, 1 ≤ n ∧ n ≤ 32 ∧ i = .int .i64 n ∧ Hid (Holds w ((w.heap.size + 1 + 1, 27, (fT E.l n).cells.toArray) :: (w.heap.size + 1, 24, (encK k).toArray) :: (w.heap.size, 51, E.cells.toArray) :: []) wr)) (fun i _ => 32 - (intOf i).toNat)
  case atStart => exact ⟨1, by omega, by omega, rfl, H1⟩
  case round =>
    clear H1
    obtain ⟨n, hn1, hn, rfl, AS⟩ := hrel
    by_cases hlt : n < 32
    · have hd : decide ((n : Int) < 32) = true := by simp; omega
      obtain ⟨r, hr⟩ : ∃ r, n % 3 = r := ⟨_, rfl⟩
      have hmod : Int.tmod (n : Int) 3 = (r : Int) := by rw [Int.tmod_eq_emod_of_nonneg (by omega)]; omega
      have hge : (0 : Int) ≤ (r : Int) := by omega
      have hi1 : (r : Int) < 3 := by omega
      have hge2 : (0 : Int) ≤ (n : Int) := by omega
      have hi2 : (n : Int) < 32 := by omega
      have ER := Lib.hid (show RowC wr w.heap.size (r * 32) (encK (E.l.getD r zeroKey)) from E.at (RowC.of_blk (AS.out.at (x := (w.heap.size, 51, E.cells.toArray)) (by simp))) r (by omega))
      have HST := Lib.hid (show (fT E.l n).setP n (E.l.getD r zeroKey) = fT E.l (n + 1) by rw [← hr]; exact fT_set E.l n (by omega) hlt)
      obtain ⟨kk, hkk⟩ : ∃ kk, E.l.getD r zeroKey = kk := ⟨_, rfl⟩
      rw [hkk] at ER HST
      have HLT := Lib.hid hlt
      clear hr hkk
      go_wp2_with (first
        | ((with_reducible refine at_load 21 ?_); refine tyKc.wpList_load rfl (.tmp 21) rfl w.heap.size (r * 32) rfl kk ER.out ?_)
        | ((with_reducible refine at_store 24 22 ?_); refine tyKc.wpList_storeAt rfl (.tmp 24) (.tmp 22) rfl rfl (w.heap.size + 1 + 1) (1 + n * 32) kk rfl rfl 27 _ (AS.out.at (x := (w.heap.size + 1 + 1, 27, (fT E.l n).cells.toArray)) (by simp)) (by rw [TrV.len]; have := HLT.out; omega) ?_; intro w5 o5 b5; rw [TrV.set_part _ n HLT.out, HST.out] at b5
           have A5 := Lib.hid (AS.out.turn o5 b5 (by omega) (by intro x hx; simp at hx; rcases hx with rfl | rfl <;> simp <;> omega))
           clear o5 b5))
      go_roundw
      case rel => exact ⟨n + 1, by omega, by omega, by go_num, A5⟩
      case measure => simp [intOf]; omega
    · obtain rfl : n = 32 := by omega
      have hd : decide (((32 : Nat) : Int) < 32) = false := by simp
      have H2 := Lib.hid AS.out
      clear AS
      have hz : ∀ w, (zeroValue 27).run Tryd.prog w = .ok (.agg Z) w := HZV.out
      have hzn : Z ≠ #[] := HZN.out
      go_wp2_with (first
        | ((with_reducible refine at_load 5 ?_); refine tyTr.wpList_load rfl (.tmp 5) rfl (w.heap.size + 1 + 1) 0 rfl (fT E.l 32) (RowC.of_blk (H2.out.at (x := (w.heap.size + 1 + 1, 27, (fT E.l 32).cells.toArray)) (by simp))) ?_)
        | ((with_reducible refine at_load 3 ?_); refine tyKc.wpList_load rfl (.tmp 3) rfl (w.heap.size + 1) 0 rfl k (RowC.of_blk (H2.out.at (x := (w.heap.size + 1, 24, (encK k).toArray)) (by simp))) ?_))
      refine (HP (fT E.l 32) k wr (RR.out _ H2.out.below)).mono ?_
      rintro e w2 ⟨rfl, b2⟩
      rw [HU.out]
      have H3 := Lib.hid (H2.out.call b2)
      clear b2
      go_wp2_with (first
        | ((with_reducible refine at_store 7 29 ?_); refine tyTr.wpList_store rfl (.tmp 7) (.tmp 29) rfl rfl w2.heap.size u rfl rfl 27 Z (Blk.new w2 27 Z) (by rw [HS.out]) ?_; intro w3 o3 b3
           have H4 := Lib.hid (H3.out.put o3 b3)
           clear o3 b3)
        | ((with_reducible refine at_load 7 ?_); refine tyTr.wpList_load rfl (.tmp 7) rfl w2.heap.size 0 rfl u (RowC.of_blk (H4.out.at (x := (w2.heap.size, 27, u.cells.toArray)) (by simp))) ?_)
        | ((with_reducible refine at_load 3 ?_); refine tyKc.wpList_load rfl (.tmp 3) rfl (w.heap.size + 1) 0 rfl k (RowC.of_blk (H4.out.at (x := (w.heap.size + 1, 24, (encK k).toArray)) (by simp))) ?_))
      refine (HP u k w3 (RR.out _ H4.out.below)).mono ?_
      rintro e w4 ⟨rfl, b4⟩
      rw [HF.out]
      have H5 := Lib.hid (H4.out.call b4)
      clear b4
      go_wp2_with (first
        | ((with_reducible refine at_store 9 35 ?_); refine tyTr.wpList_store rfl (.tmp 9) (.tmp 35) rfl rfl w4.heap.size zT rfl rfl 27 Z (Blk.new w4 27 Z) (by rw [HS.out]) ?_; intro w5 o5 b5
           have H6 := Lib.hid (H5.out.put o5 b5)
           clear o5 b5)
        | ((with_reducible refine at_load 5 ?_); refine tyTr.wpList_load rfl (.tmp 5) rfl (w.heap.size + 1 + 1) 0 rfl (fT E.l 32) (RowC.of_blk (H6.out.at (x := (w.heap.size + 1 + 1, 27, (fT E.l 32).cells.toArray)) (by simp))) ?_)
        | ((with_reducible refine at_load 3 ?_); refine tyKc.wpList_load rfl (.tmp 3) rfl (w.heap.size + 1) 0 rfl k (RowC.of_blk (H6.out.at (x := (w.heap.size + 1, 24, (encK k).toArray)) (by simp))) ?_)
        | ((with_reducible refine at_buildSlice 41 ?_); refine tyKy.wpList_build rfl zsKy 2 _ rfl [k, k] rfl (by omega) (by omega) (by kernel_rfl) ?_
           have H7 := Lib.hid (H6.out.box 24 (cellsOf encK [k, k]).toArray)))
      refine (HL (fT E.l 32) (some ⟨w5.heap.size, 0, none⟩) 2 [k, k] _ (by simp) ⟨Nat.le_refl _, (by decide), fun _ => ⟨w5.heap.size, 0, rfl, by simp, RowC.of_blk (Blk.new _ _ _)⟩⟩ (RR.out _ H7.out.below)).mono ?_
      rintro e w6 ⟨rfl, b6⟩
      rw [HA2.out]
      have H8 := Lib.hid (H7.out.call b6)
      clear b6
      go_wp2_with (first
        | ((with_reducible refine at_store 11 43 ?_); refine tyTr.wpList_store rfl (.tmp 11) (.tmp 43) rfl rfl w6.heap.size zT rfl rfl 27 Z (Blk.new w6 27 Z) (by rw [HS.out]) ?_; intro w7 o7 b7
           have H9 := Lib.hid (H8.out.put o7 b7)
           have KU := H9.out.at (x := (w2.heap.size, 27, u.cells.toArray)) (by simp)
           have cU : w7.cell? ⟨w2.heap.size, 0, none⟩ = some (.int .u32 ((4294967295 : Nat) : Int)) := by
             have := TrV.c0 (t := u) (RowC.of_blk KU)
             rwa [HUC.out] at this
           have PU := Lib.hid (show RowC w7 w2.heap.size 1 (encK k) from by
             have := TrV.c1 (t := u) (RowC.of_blk KU) 0 (by omega)
             have e : u.P[0]'(by rw [u.hP]; omega) = k := by
               apply Option.some.inj
               rw [← List.getElem?_eq_getElem, HUP.out, List.getElem?_set_self (by rw [(fT E.l 32).hP]; omega)]
             rw [e] at this
             exact this)
           clear o7 b7 KU)
        | ((with_reducible refine at_loadg 54 ?_); refine tyKc.wpList_load (by rfl) (.tmp 54) rfl w2.heap.size 1 rfl k PU.out ?_)
        | ((with_reducible refine at_loadg 3 ?_); refine tyKc.wpList_load (by rfl) (.tmp 3) rfl (w.heap.size + 1) 0 rfl k (RowC.of_blk (H9.out.at (x := (w.heap.size + 1, 24, (encK k).toArray)) (by simp))) ?_)
        | ((with_reducible refine at_eqlg 55 56 ?_); refine wpList_eql_rowg (by rfl) 24 24 (.tmp 55) (.tmp 56) rfl (encK k).toArray (encK k).toArray rfl rfl (by kernel_rfl) true (fun V => (eqKy_run _ _ V).trans (by simp)) ?_; simp only [Act.put, List.setIfInBounds_toArray, List.set_cons_succ, List.set_cons_zero])
        | ((with_reducible refine at_loadg 9 ?_); refine tyTr.wpList_load (by rfl) (.tmp 9) rfl w4.heap.size 0 rfl zT (RowC.of_blk (H9.out.at (x := (w4.heap.size, 27, zT.cells.toArray)) (by simp))) ?_)
        | ((with_reducible refine at_build 65 ?_); refine wpList_unguard (by rfl) (wpList_built rfl 27 #[] rfl zT.cells.toArray (by kernel_rfl) ?_))
        | ((with_reducible refine at_eqlg 64 65 ?_); refine wpList_eql_rowg (by rfl) 27 27 (.tmp 64) (.tmp 65) rfl zT.cells.toArray zT.cells.toArray rfl rfl (by kernel_rfl) true (eqTr_run zT) ?_; simp only [Act.put, List.setIfInBounds_toArray, List.set_cons_succ, List.set_cons_zero])
        | ((with_reducible refine at_loadg 11 ?_); refine tyTr.wpList_load (by rfl) (.tmp 11) rfl w6.heap.size 0 rfl zT (RowC.of_blk (H9.out.at (x := (w6.heap.size, 27, zT.cells.toArray)) (by simp))) ?_)
        | ((with_reducible refine at_build 74 ?_); refine wpList_unguard (by rfl) (wpList_built rfl 27 #[] rfl zT.cells.toArray (by kernel_rfl) ?_))
        | ((with_reducible refine at_eqlg 73 74 ?_); refine wpList_eql_rowg (by rfl) 27 27 (.tmp 73) (.tmp 74) rfl zT.cells.toArray zT.cells.toArray rfl rfl (by kernel_rfl) true (eqTr_run zT) ?_; simp only [Act.put, List.setIfInBounds_toArray, List.set_cons_succ, List.set_cons_zero]))
      refine (SH.out _ (RR.out _ H9.out.below)).mono ?_
      rintro e w8 ⟨rfl, b8⟩
      have H10 := Lib.hid (H9.out.call b8)
      clear b8
      go_wp2_with fail
      go_ret
      exact ⟨rfl, H10.out.below⟩
end Go.Proofs.YtfmidmhbnpincaaDoor
