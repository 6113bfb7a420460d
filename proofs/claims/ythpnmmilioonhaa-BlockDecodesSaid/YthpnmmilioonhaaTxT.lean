/- tx's reader: key, point, out. -/
import Derived.Test.YthpnmmilioonhaaTxS
import Derived.Test.YthpnmmilioonhaaGenA
import Derived.Deep.RegionHeld3
namespace Go.Proofs.Ythpnmmilioonhaa
open Go.RowKit
theorem stepKx_any (l : List UInt8) (hs : l.length ≤ 1000000) (g : Nat) (w0 : World) (hr : Rb w0 g l) (cs : Array Value) (t : TypeId) :
    Calls Try.prog 95 #[.pointer (some ⟨g, 0, none⟩), .func (.func 20) #[] #[]] (w0.alloc (.cells cs t)) (EndR VK g w0 (keyR l)) :=
  (stepK_any l hs g _ (hr.alloc _)).mono fun _ _ h => h.from (Past.of_below ((Below.refl _ _).alloc (Nat.le_refl _) _))
set_option maxRecDepth 20000 in
theorem key_r (l : List UInt8) (hs : l.length ≤ 1000000) (g : Nat) (w : World) (hr : Rb w g l) :
    Calls Try.prog 90 #[.pointer (some ⟨g, 0, none⟩)] w (EndR VK g w (keyR l)) := by
  have hC := stepK_any l hs g
  have HA := Lib.hid (fun o => (show Rb (w.alloc o) g l from hr.alloc o))
  have P0 := Lib.hid (fun o => (show Past g w (w.alloc o) from Past.of_below ((Below.refl _ _).alloc (Nat.le_refl _) _)))
  have hg : g < w.heap.size := hr.lt
  clear hr
  cases hq : keyR l with
  | error er =>
    rw [hq] at hC
    have HC := Lib.hid hC
    clear hq hC
    go_enter Try.func90, Try.ntmps90
    go_wp2_with fail
    refine (HC.out _ (HA.out _)).mono ?_
    rintro e w1 ⟨rfl, p1⟩
    exact ⟨rfl, rfl, (P0.out _).trans p1⟩
  | ok x =>
    obtain ⟨k, r⟩ := x
    rw [hq] at hC
    have HC := Lib.hid hC
    clear hq hC
    go_enter Try.func90, Try.ntmps90
    go_wp2_with fail
    refine (HC.out _ (HA.out _)).mono ?_
    rintro e w1 ⟨v, rfl, rfl, b1, p1⟩
    have K2 := Lib.hid (p1.blk (Blk.new w 24 _) (by omega))
    have P1 := Lib.hid ((P0.out _).trans p1)
    have B1 := Lib.hid b1
    clear b1 p1
    go_wp2_with ((with_reducible refine at_store 2 4 ?_); refine wpList_store_arr rfl 24 (.tmp 2) (.tmp 4) rfl rfl w.heap.size (encK k).toArray rfl rfl 24 _ K2.out (tyKy.arrS _) (by rw [tyKy.arr]; rfl) (tyKy.arr1 _) ?_; intro w2 o2 b2)
    exact bodyPost_ret (results_cell_row rfl _ _ w.heap.size 24 _ (0, 0) _ rfl b2 Try.underlying24 rfl (tyKy.arrS _)) rfl ⟨_, rfl, rfl, o2.blk B1.out (by simp; omega), P1.out.new o2 (Nat.le_refl _)⟩
def VP (p : K32 × IntV .u32) (v : Value) (_ : World) : Prop := v = .agg (encKI .u32 p).toArray
def VO (p : IntV .i64 × K32) (v : Value) (_ : World) : Prop := v = .agg (encIK .i64 p).toArray
theorem rest_len {α : Type} {W : α → List UInt8} {R : Rd α} {V : α → Prop} (h : Good W R V) {l r : List UInt8} {a : α} (he : R l = .ok (a, r)) (hs : l.length ≤ 1000000) : r.length ≤ 1000000 := by
  have := (h.bwd _ _ _ he).2
  rw [this, List.length_append] at hs
  omega
theorem built_KI (t : TypeId) (ht : t = 49) (k : K32) (z : IntV .u32) : Try.prog.built t [(0, .agg (encK k).toArray), (1, .int .u32 z.1)] = some (encKI .u32 (k, z)).toArray := by
  subst ht
  obtain ⟨l, hl⟩ := k
  iterate 32 (rcases l with _ | ⟨b, l⟩; · simp at hl)
  rcases l with _ | ⟨b, l⟩
  · kernel_rfl
  · simp at hl
theorem built_IK (t : TypeId) (ht : t = 92) (k : K32) (z : IntV .i64) : Try.prog.built t [(0, .int .i64 z.1), (1, .agg (encK k).toArray)] = some (encIK .i64 (z, k)).toArray := by
  subst ht
  obtain ⟨l, hl⟩ := k
  iterate 32 (rcases l with _ | ⟨b, l⟩; · simp at hl)
  rcases l with _ | ⟨b, l⟩
  · kernel_rfl
  · simp at hl
set_option maxRecDepth 20000 in
set_option maxHeartbeats 1000000 in
theorem point_r (l : List UInt8) (hs : l.length ≤ 1000000) (g : Nat) (w : World) (hr : Rb w g l) :
    Calls Try.prog 87 #[.pointer (some ⟨g, 0, none⟩)] w (EndR VP g w (ptR l)) := by
  have hC := key_r l hs g
  have HA := Lib.hid (fun o => (show Rb (w.alloc o) g l from hr.alloc o))
  have P0 := Lib.hid (fun o => (show Past g w (w.alloc o) from Past.of_below ((Below.refl _ _).alloc (Nat.le_refl _) _)))
  have hg : g < w.heap.size := hr.lt
  clear hr
  cases hq : keyR l with
  | error er =>
    rw [show ptR l = .error er by unfold ptR thenR; rw [hq]]
    rw [hq] at hC
    have HC := Lib.hid hC
    clear hq hC
    go_enter Try.func87, Try.ntmps87
    go_wp2_with fail
    refine (HC.out _ (HA.out _)).mono ?_
    rintro e w1 ⟨rfl, p1⟩
    exact ⟨rfl, rfl, (P0.out _).trans p1⟩
  | ok x =>
    obtain ⟨k, r⟩ := x
    have hs' := rest_len good_key hq hs
    have hU := u32_r r hs' g
    rw [hq] at hC
    have HC := Lib.hid hC
    cases hq2 : u32R r with
    | error er =>
      rw [show ptR l = .error er by unfold ptR thenR; rw [hq]; simp only [hq2]]
      rw [hq2] at hU
      have HU := Lib.hid hU
      clear hq hC hU hq2 hs'
      go_enter Try.func87, Try.ntmps87
      go_wp2_with fail
      refine (HC.out _ (HA.out _)).mono ?_
      rintro e w1 ⟨v, rfl, rfl, b1, p1⟩
      have K2 := Lib.hid (p1.blk (Blk.new w 49 _) (by omega))
      have P1 := Lib.hid ((P0.out _).trans p1)
      have B1 := Lib.hid b1
      clear b1 p1
      go_wp2_with ((with_reducible refine at_store 3 5 ?_); refine wpList_store_arr rfl 24 (.tmp 3) (.tmp 5) rfl rfl w1.heap.size (encK k).toArray rfl rfl 24 _ (Blk.new w1 _ _) (tyKy.arrS _) (by rw [tyKy.arr]; rfl) (tyKy.arr1 _) ?_; intro w2 o2 b2)
      have l1 : w.heap.size < w1.heap.size := K2.out.lt
      have lg : g < w1.heap.size := B1.out.lt
      have P2 := Lib.hid (P1.out.trans (Past.of_below (g := g) (((Below.refl _ _).alloc (Nat.le_refl _) _).trans (o2.below (by simp)))))
      have K3 := Lib.hid b2
      replace K2 := Lib.hid (o2.blk (K2.out.alloc _) (by simp; omega))
      have B2 := Lib.hid (o2.blk (B1.out.alloc _) (by simp; omega))
      clear b2 o2 P1 B1 HA P0
      refine wp_region_held_drew (S := fun w' => Past g w w' ∧ (∃ cs : Array Value, cs.size = 33 ∧ Blk w' w.heap.size 49 cs) ∧ Blk w' w1.heap.size 24 (encK k).toArray) (by kernel_rfl) ⟨P2.out.drewN 1, ⟨_, rfl, K2.out.drew⟩, K3.out.drew⟩ ?_
      have B2d : Rb w2.drew g r := B2.out.drew
      have BD := Lib.hid B2d
      clear K2 K3 P2 B2 B2d
      generalize w2.drew = wd at *
      intro hS0
      refine wpAnyH_take (i := 0) (v := .agg (encK k).toArray) rfl (by kernel_rfl) (by kernel_rfl) (by kernel_rfl) (fun _ _ _ h => h) (yieldsIf_load_row (by rfl) 24 (.tmp 3) rfl w1.heap.size rfl 24 (encK k).toArray _ (fun _ h => h.2.2) Try.underlying24 rfl (tyKy.arrS _)) hS0 ?_
      simp only [Act.put, List.getElem_toArray, List.getElem_cons_zero, List.setIfInBounds_toArray, List.set_cons_succ, List.set_cons_zero]
      refine wpAnyH_take (i := 1) (v := .pointer (some ⟨g, 0, none⟩)) rfl (by kernel_rfl) (by kernel_rfl) (by kernel_rfl) (fun _ _ _ h => h) (Or.inl ⟨by rfl, fun W _ => by go_simp; try with_reducible rfl⟩) hS0 ?_
      simp only [Act.put, List.getElem_toArray, List.getElem_cons_zero, List.getElem_cons_succ, List.setIfInBounds_toArray, List.set_cons_succ, List.set_cons_zero]
      refine wpAnyH_ready (rs := [2]) (by kernel_rfl) (by simp) ?_
      refine AllReadyH.cons rfl (fun Kq hK => ?_) AllReadyH.nil
      go_simp
      refine (HU.out wd BD.out).mono ?_
      rintro e w3 ⟨rfl, p3⟩
      exact ⟨rfl, rfl, hS0.1.trans p3⟩
    | ok y =>
      obtain ⟨z, r2⟩ := y
      rw [show ptR l = .ok ((k, z), r2) by unfold ptR thenR; rw [hq]; simp only [hq2]]
      rw [hq2] at hU
      have HU := Lib.hid hU
      clear hq hC hU hq2 hs'
      go_enter Try.func87, Try.ntmps87
      go_wp2_with fail
      refine (HC.out _ (HA.out _)).mono ?_
      rintro e w1 ⟨v, rfl, rfl, b1, p1⟩
      have K2 := Lib.hid (p1.blk (Blk.new w 49 _) (by omega))
      have P1 := Lib.hid ((P0.out _).trans p1)
      have B1 := Lib.hid b1
      clear b1 p1
      go_wp2_with ((with_reducible refine at_store 3 5 ?_); refine wpList_store_arr rfl 24 (.tmp 3) (.tmp 5) rfl rfl w1.heap.size (encK k).toArray rfl rfl 24 _ (Blk.new w1 _ _) (tyKy.arrS _) (by rw [tyKy.arr]; rfl) (tyKy.arr1 _) ?_; intro w2 o2 b2)
      have l1 : w.heap.size < w1.heap.size := K2.out.lt
      have lg : g < w1.heap.size := B1.out.lt
      have P2 := Lib.hid (P1.out.trans (Past.of_below (g := g) (((Below.refl _ _).alloc (Nat.le_refl _) _).trans (o2.below (by simp)))))
      have K3 := Lib.hid b2
      replace K2 := Lib.hid (o2.blk (K2.out.alloc _) (by simp; omega))
      have B2 := Lib.hid (o2.blk (B1.out.alloc _) (by simp; omega))
      clear b2 o2 P1 B1 HA P0
      refine wp_region_held_drew (S := fun w' => Past g w w' ∧ (∃ cs : Array Value, cs.size = 33 ∧ Blk w' w.heap.size 49 cs) ∧ Blk w' w1.heap.size 24 (encK k).toArray) (by kernel_rfl) ⟨P2.out.drewN 1, ⟨_, rfl, K2.out.drew⟩, K3.out.drew⟩ ?_
      have B2d : Rb w2.drew g r := B2.out.drew
      have BD := Lib.hid B2d
      clear K2 K3 P2 B2 B2d
      generalize w2.drew = wd at *
      intro hS0
      refine wpAnyH_take (i := 0) (v := .agg (encK k).toArray) rfl (by kernel_rfl) (by kernel_rfl) (by kernel_rfl) (fun _ _ _ h => h) (yieldsIf_load_row (by rfl) 24 (.tmp 3) rfl w1.heap.size rfl 24 (encK k).toArray _ (fun _ h => h.2.2) Try.underlying24 rfl (tyKy.arrS _)) hS0 ?_
      simp only [Act.put, List.getElem_toArray, List.getElem_cons_zero, List.setIfInBounds_toArray, List.set_cons_succ, List.set_cons_zero]
      refine wpAnyH_take (i := 1) (v := .pointer (some ⟨g, 0, none⟩)) rfl (by kernel_rfl) (by kernel_rfl) (by kernel_rfl) (fun _ _ _ h => h) (Or.inl ⟨by rfl, fun W _ => by go_simp; try with_reducible rfl⟩) hS0 ?_
      simp only [Act.put, List.getElem_toArray, List.getElem_cons_zero, List.getElem_cons_succ, List.setIfInBounds_toArray, List.set_cons_succ, List.set_cons_zero]
      refine wpAnyH_ready (rs := [2]) (by kernel_rfl) (by simp) ?_
      refine AllReadyH.cons rfl (fun Kq hK => ?_) AllReadyH.nil
      go_simp
      refine (HU.out wd BD.out).mono ?_
      rintro e w3 ⟨v, rfl, rfl, b3, p3⟩
      obtain ⟨cs, hcs, kcs⟩ := hS0.2.1
      have lt3 : w.heap.size < wd.heap.size := kcs.lt
      refine hK.out _ _ ⟨hS0.1.trans p3, ⟨cs, hcs, p3.blk kcs (by omega)⟩, p3.blk hS0.2.2 (by omega)⟩ (fun hS1 => ?_)
      have B3 := Lib.hid b3
      clear hK Kq b3 p3 BD
      refine wpAnyH_take (i := 3) (v := .agg (encKI .u32 (k, z)).toArray) rfl (by kernel_rfl) (by kernel_rfl) (by kernel_rfl) (fun _ _ _ h => h) (yieldsIf_build (by rfl) 49 #[(0, .tmp 6), (1, .tmp 8)] rfl (encKI .u32 (k, z)).toArray ((congrArg (Try.prog.built 49) (show _ = [(0, Value.agg (encK k).toArray), (1, Value.int .u32 z.1)] by kernel_rfl)).trans (built_KI _ rfl k z))) hS1 ?_
      simp only [Act.put, List.getElem_toArray, List.getElem_cons_zero, List.getElem_cons_succ, List.setIfInBounds_toArray, List.set_cons_succ, List.set_cons_zero]
      obtain ⟨cs', hcs', kcs'⟩ := hS1.2.1
      refine wpAnyH_ready (rs := [4]) (by kernel_rfl) (by simp) ?_
      refine AllReadyH.cons rfl (fun Kq hK => ?_) AllReadyH.nil
      refine step_store_arr rfl 49 (.tmp 2) (.tmp 9) rfl rfl w.heap.size (encKI .u32 (k, z)).toArray rfl rfl 49 _ kcs' (tyPt.arrS _) (by rw [tyPt.arr, hcs']) (tyPt.arr1 _) ?_
      intro w4 o4 b4
      refine hK.out _ _ ⟨hS1.1.new o4 (Nat.le_refl _), ⟨_, tyPt.arr _, b4⟩, o4.blk hS1.2.2 (by simp; omega)⟩ (fun hS2 => ?_)
      clear hK Kq
      refine wpAnyH_done (by kernel_rfl) ?_ _
      go_wp2_with fail
      exact bodyPost_ret (results_cell_row rfl _ _ w.heap.size 49 _ (0, 0) _ rfl b4 Try.underlying49 rfl (tyPt.arrS _)) rfl ⟨_, rfl, rfl, o4.blk B3.out (by simp; omega), hS2.1⟩
set_option maxRecDepth 20000 in
theorem out_r (l : List UInt8) (hs : l.length ≤ 1000000) (g : Nat) (w : World) (hr : Rb w g l) :
    Calls Try.prog 89 #[.pointer (some ⟨g, 0, none⟩)] w (EndR VO g w (outR l)) := by
  have hC := i64_r l hs g
  have HA := Lib.hid (fun o => (show Rb (w.alloc o) g l from hr.alloc o))
  have P0 := Lib.hid (fun o => (show Past g w (w.alloc o) from Past.of_below ((Below.refl _ _).alloc (Nat.le_refl _) _)))
  have hg : g < w.heap.size := hr.lt
  clear hr
  cases hq : i64R l with
  | error er =>
    rw [show outR l = .error er by unfold outR thenR; rw [hq]]
    rw [hq] at hC
    have HC := Lib.hid hC
    clear hq hC
    go_enter Try.func89, Try.ntmps89
    go_wp2_with fail
    refine (HC.out _ (HA.out _)).mono ?_
    rintro e w1 ⟨rfl, p1⟩
    exact ⟨rfl, rfl, (P0.out _).trans p1⟩
  | ok x =>
    obtain ⟨z, r⟩ := x
    have hs' := rest_len good_i64 hq hs
    have hU := key_r r hs' g
    rw [hq] at hC
    have HC := Lib.hid hC
    cases hq2 : keyR r with
    | error er =>
      rw [show outR l = .error er by unfold outR thenR; rw [hq]; simp only [hq2]]
      rw [hq2] at hU
      have HU := Lib.hid hU
      clear hq hC hU hq2 hs'
      go_enter Try.func89, Try.ntmps89
      go_wp2_with fail
      refine (HC.out _ (HA.out _)).mono ?_
      rintro e w1 ⟨v, rfl, rfl, b1, p1⟩
      have P1 := Lib.hid ((P0.out _).trans p1)
      have B1 := Lib.hid b1
      clear b1 p1 HA P0
      go_wp2_with fail
      refine (HU.out _ B1.out).mono ?_
      rintro e w3 ⟨rfl, p3⟩
      exact ⟨rfl, rfl, P1.out.trans p3⟩
    | ok y =>
      obtain ⟨k, r2⟩ := y
      rw [show outR l = .ok ((z, k), r2) by unfold outR thenR; rw [hq]; simp only [hq2]]
      rw [hq2] at hU
      have HU := Lib.hid hU
      clear hq hC hU hq2 hs'
      go_enter Try.func89, Try.ntmps89
      go_wp2_with fail
      refine (HC.out _ (HA.out _)).mono ?_
      rintro e w1 ⟨v, rfl, rfl, b1, p1⟩
      have K2 := Lib.hid (p1.blk (Blk.new w 92 _) (by omega))
      have l1 : w.heap.size < w1.heap.size := K2.out.lt
      have P1 := Lib.hid ((P0.out _).trans p1)
      have B1 := Lib.hid b1
      clear b1 p1 HA P0
      go_wp2_with fail
      refine (HU.out _ B1.out).mono ?_
      rintro e w3 ⟨v, rfl, rfl, b3, p3⟩
      replace K2 := Lib.hid (p3.blk K2.out (by omega))
      have P3 := Lib.hid (P1.out.trans p3)
      have B3 := Lib.hid b3
      clear b3 p3 P1 B1
      go_wp2_with (first
        | ((with_reducible refine at_build 9 ?_); refine wpList_built rfl 92 #[(0, .tmp 6), (1, .tmp 8)] rfl (encIK .i64 (z, k)).toArray ((congrArg (Try.prog.built 92) (show _ = [(0, Value.int .i64 z.1), (1, Value.agg (encK k).toArray)] by kernel_rfl)).trans (built_IK _ rfl k z)) ?_)
        | ((with_reducible refine at_store 2 9 ?_); refine wpList_store_arr rfl 92 (.tmp 2) (.tmp 9) rfl rfl w.heap.size (encIK .i64 (z, k)).toArray rfl rfl 92 _ K2.out (tyOut.arrS _) (by rw [tyOut.arr]; rfl) (tyOut.arr1 _) ?_; intro w4 o4 b4))
      exact bodyPost_ret (results_cell_row rfl _ _ w.heap.size 92 _ (0, 0) _ rfl b4 Try.underlying92 rfl (tyOut.arrS _)) rfl ⟨_, rfl, rfl, o4.blk B3.out (by simp; omega), P3.out.new o4 (Nat.le_refl _)⟩
end Go.Proofs.Ythpnmmilioonhaa
