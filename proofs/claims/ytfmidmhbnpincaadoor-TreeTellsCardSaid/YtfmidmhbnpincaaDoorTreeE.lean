/- The document's Empty. -/
import Derived.Test.YtfmidmhbnpincaaDoorTreeB
import Derived.Deep.RegionHeld3
namespace Go.Proofs.YtfmidmhbnpincaaDoor
open Go.RowKit
abbrev empK (i : Nat) : K32 := empR pairK zeroKey i
def mkE (i : Nat) (h : i ≤ 32) : E33 := ⟨(List.range (i + 1)).map empK ++ List.replicate (32 - i) zeroKey, by simp; omega⟩
theorem mkE_zero : mkE 0 (by omega) = zE := rfl
theorem mkE_set (i : Nat) (h : i < 32) : (mkE i (by omega)).setK (i + 1) (empK (i + 1)) = mkE (i + 1) (by omega) := by
  unfold mkE E33.setK
  congr 1
  simp only
  rw [List.set_append_right _ _ (by simp), show (List.map empK (List.range (i + 1))).length = i + 1 by simp, Nat.sub_self, show 32 - i = (32 - (i + 1)) + 1 by omega, List.replicate_succ, List.set_cons_zero, List.range_succ (n := i + 1), List.map_append]
  simp
theorem mkE_get (i : Nat) (h : i ≤ 32) (hi : i < (mkE i h).l.length) : (mkE i h).l[i] = empK i := by
  apply Option.some.inj
  rw [← List.getElem?_eq_getElem]
  show (List.map empK (List.range (i + 1)) ++ List.replicate (32 - i) zeroKey)[i]? = _
  rw [List.getElem?_append_left (by simp)]
  simp
theorem mkE_low (k : Nat) (h : k < 32) : (mkE (k + 1) (by omega)).l[k]'(by rw [(mkE (k + 1) (by omega)).h]; omega) = empK k := by
  apply Option.some.inj
  rw [← List.getElem?_eq_getElem]
  show (List.map empK (List.range (k + 1 + 1)) ++ List.replicate (32 - (k + 1)) zeroKey)[k]? = _
  rw [List.getElem?_append_left (by simp; omega), List.getElem?_map, List.getElem?_range (by omega)]
  rfl
/-- one result, which lies in a block whole -/
theorem results_cell1 {P : Program} {fn : Func} {p : Tmp} {ty : TypeId} (h : fn.results = #[.cell p ty]) (tmps : Array Value) (w : World) (g : Nat) (t : TypeId) (cs : Array Value) (fr : Nat × Nat) (d : TypeDesc)
    (hp : tmps.getD p undef = .pointer (some ⟨g, 0, none⟩)) (hg : w.heap[g]? = some (.cells cs t fr))
    (hu : P.underlying ty = some d) (hd : (match d with | .struct _ | .array _ _ => true | _ => false) = true) (hi : (P.info? ty).map (·.size) = some cs.size) :
    (results fn tmps).run P w = .ok (.agg cs) w := by
  have hp' : tmps[p]?.getD undef = .pointer (some ⟨g, 0, none⟩) := by simpa using hp
  simp [results, h, hp', asAddr, run_loadVar_row w g t ty cs fr d hg hu hd hi]
/-- what lies there while Empty is at work -/
structure EmS (w : World) (Z : Array Value) (x : E33) (W : World) : Prop where
  below : Below w.heap.size w W
  z : Blk W w.heap.size 40 Z
  e : Blk W (w.heap.size + 1) 40 x.cells.toArray
theorem EmS.call {w W W' : World} {Z : Array Value} {x : E33} (h : EmS w Z x W) (hb : Below W.heap.size W W') : EmS w Z x W' :=
  ⟨h.below.trans (hb.mono h.below.size), below_blk hb h.z h.z.lt, below_blk hb h.e h.e.lt⟩
theorem EmS.drew {w W : World} {Z : Array Value} {x : E33} (h : EmS w Z x W) : EmS w Z x W.drew := ⟨h.below.drew, h.z, h.e⟩
theorem mkE_at {w : World} {g k : Nat} (hk : k ≤ 32) (h : Blk w g 40 (mkE k hk).cells.toArray) : RowC w g (k * 32) (encK (empK k)) := by
  have CK := (mkE k hk).at (RowC.of_blk h) k (by omega)
  rwa [mkE_get k hk (by rw [(mkE k hk).h]; omega)] at CK
set_option maxRecDepth 100000 in
theorem rEmpty_r (w : World) :
    Calls Tryd.prog 18 #[] w fun e w' => e = .returned (.agg (mkE 32 (by omega)).cells.toArray) ∧ Below w.heap.size w w' := by
  obtain ⟨Z, hZ, hz, hzs, hzn⟩ := zero_of zeroE_ok zE_size
  have HZ := Lib.hid hZ
  have HS := Lib.hid hzs
  clear hZ
  go_enter Tryd.func18, Tryd.ntmps18
  go_wp2_with (first
    | ((with_reducible refine at_build 3 ?_); refine wpList_built rfl 40 #[] rfl zE.cells.toArray (by kernel_rfl) ?_)
    | ((with_reducible refine at_store 1 3 ?_); refine tyE.wpList_store rfl (.tmp 1) (.tmp 3) rfl rfl (w.heap.size + 1) zE rfl rfl 40 Z (by have := Blk.new (w.alloc (.cells Z 40)) 40 Z; rwa [World.size_alloc] at this) (by rw [HS.out]) ?_; intro w2 o2 b2
       have K2 := Lib.hid b2
       have B2 := Lib.hid ((((Below.refl w.heap.size w).alloc (Nat.le_refl _) (.cells Z 40)).alloc (by simp) (.cells Z 40)).trans (o2.below (by simp)))
       have R2 := Lib.hid (o2.blk ((Blk.new w 40 Z).alloc (.cells Z 40)) (by simp))
       clear o2 b2))
  clear hz hzn
  go_loopw [2] (fun i wr => ∃ (k : Nat) (hk : k ≤ 32), i = .int .i64 k ∧ Hid (Blk wr (w.heap.size + 1) 40 (mkE k hk).cells.toArray) ∧ Hid (Blk wr w.heap.size 40 Z) ∧ Hid (Below w.heap.size w wr)) (fun i _ => 32 - (intOf i).toNat)
  case atStart => exact ⟨0, by omega, rfl, K2, R2, B2⟩
  case round =>
    clear K2 R2 B2
    obtain ⟨k, hk, rfl, KE, KZ, KB⟩ := hrel
    by_cases hlt : k < 32
    · have hd : decide ((k : Int) < 32) = true := by simp; omega
      go_wp2_with fail
      have hge : (0 : Int) ≤ (k : Int) := by omega
      have hi1 : (k : Int) < 33 := by omega
      have hi2 : (k : Int) + 1 < 33 := by omega
      have hi3 : (0 : Int) ≤ (k : Int) + 1 := by omega
      have hwr : IntKind.i64.wrap ((k : Int) + 1) = (k : Int) + 1 := by rw [IntKind.wrap_i64]; omega
      have htn : ((k : Int) + 1).toNat = k + 1 := by omega
      have E0 := Lib.hid (show EmS w Z (mkE k hk) wr from ⟨KB.out, KZ.out, KE.out⟩)
      refine wp_region_held_drew (S := fun W => RowC W (w.heap.size + 1) (k * 32) (encK (empK k))) (by kernel_rfl) (mkE_at hk E0.out.drew.e) ?_
      clear KE KZ KB
      intro hS
      refine wpAnyH_take (i := 0) (v := .int .i64 k) rfl (by kernel_rfl) (by kernel_rfl) (by kernel_rfl) (fun _ _ _ h => h) (Or.inl ⟨by rfl, fun W _ => by go_simp; try with_reducible rfl⟩) hS ?_
      simp only [Act.put, List.getElem_toArray, List.getElem_cons_zero, List.setIfInBounds_toArray, List.set_cons_succ, List.set_cons_zero]
      refine wpAnyH_take (i := 1) (v := .int .i64 ((k : Int) + 1)) rfl (by kernel_rfl) (by kernel_rfl) (by kernel_rfl) (fun _ _ _ h => h) (Or.inl ⟨by rfl, fun W _ => by go_simp; try with_reducible rfl⟩) hS ?_
      simp only [Act.put, List.getElem_toArray, List.getElem_cons_zero, List.getElem_cons_succ, List.setIfInBounds_toArray, List.set_cons_succ, List.set_cons_zero]
      refine wpAnyH_take (i := 2) (v := .int .i64 k) rfl (by kernel_rfl) (by kernel_rfl) (by kernel_rfl) (fun _ _ _ h => h) (Or.inl ⟨by rfl, fun W _ => by go_simp; try with_reducible rfl⟩) hS ?_
      simp only [Act.put, List.getElem_toArray, List.getElem_cons_zero, List.getElem_cons_succ, List.setIfInBounds_toArray, List.set_cons_succ, List.set_cons_zero]
      refine wpAnyH_take (i := 3) (v := .pointer (some ⟨w.heap.size + 1, k * 32, none⟩)) rfl (by kernel_rfl) (by kernel_rfl) (by kernel_rfl) (fun _ _ _ h => h) (Or.inl ⟨by rfl, fun W _ => by go_simp; try with_reducible rfl⟩) hS ?_
      simp only [Act.put, List.getElem_toArray, List.getElem_cons_zero, List.getElem_cons_succ, List.setIfInBounds_toArray, List.set_cons_succ, List.set_cons_zero]
      refine wpAnyH_take (i := 4) (v := .agg (encK (empK k)).toArray) rfl (by kernel_rfl) (by kernel_rfl) (by kernel_rfl) (fun _ _ _ h => h) (tyKc.yieldsIf_load (by rfl) (.tmp 11) rfl (w.heap.size + 1) (k * 32) rfl (empK k) (fun _ h => h)) hS ?_
      simp only [Act.put, List.getElem_toArray, List.getElem_cons_zero, List.getElem_cons_succ, List.setIfInBounds_toArray, List.set_cons_succ, List.set_cons_zero]
      refine wpAnyH_take (i := 5) (v := .int .i64 k) rfl (by kernel_rfl) (by kernel_rfl) (by kernel_rfl) (fun _ _ _ h => h) (Or.inl ⟨by rfl, fun W _ => by go_simp; try with_reducible rfl⟩) hS ?_
      simp only [Act.put, List.getElem_toArray, List.getElem_cons_zero, List.getElem_cons_succ, List.setIfInBounds_toArray, List.set_cons_succ, List.set_cons_zero]
      refine wpAnyH_take (i := 6) (v := .pointer (some ⟨w.heap.size + 1, k * 32, none⟩)) rfl (by kernel_rfl) (by kernel_rfl) (by kernel_rfl) (fun _ _ _ h => h) (Or.inl ⟨by rfl, fun W _ => by go_simp; try with_reducible rfl⟩) hS ?_
      simp only [Act.put, List.getElem_toArray, List.getElem_cons_zero, List.getElem_cons_succ, List.setIfInBounds_toArray, List.set_cons_succ, List.set_cons_zero]
      refine wpAnyH_take (i := 7) (v := .agg (encK (empK k)).toArray) rfl (by kernel_rfl) (by kernel_rfl) (by kernel_rfl) (fun _ _ _ h => h) (tyKc.yieldsIf_load (by rfl) (.tmp 14) rfl (w.heap.size + 1) (k * 32) rfl (empK k) (fun _ h => h)) hS ?_
      simp only [Act.put, List.getElem_toArray, List.getElem_cons_zero, List.getElem_cons_succ, List.setIfInBounds_toArray, List.set_cons_succ, List.set_cons_zero]
      refine wpAnyH_ready (rs := [8]) (by kernel_rfl) (by simp) ?_
      refine AllReadyH.cons rfl (fun Kq hK => ?_) AllReadyH.nil
      go_simp
      with_reducible refine (rPair_r (empK k) (empK k) _).mono ?_
      rintro e x1 ⟨rfl, b1⟩
      have E1 := Lib.hid (E0.out.drew.call b1)
      refine hK.out _ _ (mkE_at hk E1.out.e) (fun hS => ?_)
      clear hK Kq b1 E0
      refine wpAnyH_take (i := 9) (v := .pointer (some ⟨w.heap.size + 1, (k + 1) * 32, none⟩)) rfl (by kernel_rfl) (by kernel_rfl) (by kernel_rfl) (fun _ _ _ h => h) (Or.inl ⟨by rfl, fun W _ => by go_simp; try with_reducible rfl⟩) hS ?_
      simp only [Act.put, List.getElem_toArray, List.getElem_cons_zero, List.getElem_cons_succ, List.setIfInBounds_toArray, List.set_cons_succ, List.set_cons_zero]
      refine wpAnyH_ready (rs := [10]) (by kernel_rfl) (by simp) ?_
      refine AllReadyH.cons rfl (fun Kq hK => ?_) AllReadyH.nil
      refine tyKc.step_storeAt rfl (.tmp 17) (.tmp 16) rfl rfl (w.heap.size + 1) ((k + 1) * 32) (empK (k + 1)) rfl rfl 40 _ E1.out.e (by rw [E33.len]; omega) ?_
      intro w4 o4 b4
      rw [E33.set_key _ (k + 1) (by omega), mkE_set k hlt] at b4
      have K4 := Lib.hid b4
      have Z4 := Lib.hid (o4.blk E1.out.z (by simp))
      have B4 := Lib.hid (E1.out.below.trans (o4.below (by simp)))
      refine hK.out _ _ ?_ (fun _ => ?_)
      · have := (mkE (k + 1) (by omega)).at (RowC.of_blk K4.out) k (by omega)
        rwa [mkE_low k hlt] at this
      clear hK Kq hS o4 b4 E1
      refine wpAnyH_done (by kernel_rfl) ?_ _
      go_wp2_with fail
      go_roundw
      case rel => exact ⟨k + 1, by omega, by go_num, K4, Z4, B4⟩
      case measure => simp [intOf]; omega
    · obtain rfl : k = 32 := by omega
      go_wp2_with (first
        | ((with_reducible refine at_load 1 ?_); refine tyE.wpList_load rfl (.tmp 1) rfl (w.heap.size + 1) 0 rfl (mkE 32 hk) (by simpa using RowC.of_blk KE.out) ?_)
        | ((with_reducible refine at_store 0 18 ?_); refine tyE.wpList_store rfl (.tmp 0) (.tmp 18) rfl rfl w.heap.size (mkE 32 hk) rfl rfl 40 Z KZ.out (by rw [HS.out]) ?_; intro w2 o2 b2))
      exact bodyPost_ret (results_cell1 rfl _ _ w.heap.size 40 _ (0, 0) _ rfl b2 Tryd.underlying40 rfl (by rw [tyE.arr]; kernel_rfl)) rfl ⟨rfl, KB.out.trans (o2.below (by simp))⟩
end Go.Proofs.YtfmidmhbnpincaaDoor
