/- OracleFirst. Written by genLVg.py. -/
import Derived.Test.YthepiegaoekccaaLVf
import Derived.Deep.Cut
import Derived.Deep.CutRange
import Derived.Deep.DeepCutAuto
namespace Go.Proofs.Ythepiegaoekccaa
open Go.RowKit
theorem lookF_snoc {l : List VdV} {id : K32} {it : Int} {x : VdV} : lookF l id it = true → lookF (l ++ [x]) id it = true := by
  induction l with
  | nil => intro h; cases h
  | cons y l ih =>
    intro h
    rw [List.cons_append]
    by_cases hy : y.tx = id ∧ y.item.1 = it
    · rw [lookF_hit hy.1 hy.2] at h ⊢
      exact h
    · rw [lookF_miss hy] at h ⊢
      exact ih h
set_option maxRecDepth 20000 in
set_option maxHeartbeats 8000000 in
theorem vdFirst_h (HLO : OLookOk) (HAL : OAllOk) (HGO : OGoodOk) (A : Option Addr) (c : Nat) (l : List VdV) (id other : K32) (it : IntV .i64) (is : Bool) (w : World) (hn : 200 < l.length) :
    Calls Try.prog 5 #[.slice A l.length c, .agg (encK id).toArray, .agg (encK other).toArray, .int .i64 it.1, .bool is] w fun e w' => e = .returned (.bool true) ∧ Below w.heap.size w w' := by
  have SH := Lib.hid (fun W => vshown_any HLO HAL HGO W)
  have H0 := Lib.hid (show Holds w [(w.heap.size + 1, 27, (encK other).toArray), (w.heap.size, 27, (encK id).toArray)] ((w.alloc (.cells (encK id).toArray 27)).alloc (.cells (encK other).toArray 27)) from by
    have := ((Holds.nil w).box 27 (encK id).toArray).box 27 (encK other).toArray
    simpa only [World.size_alloc, Nat.add_assoc] using this)
  have hd : decide ((200 : Int) < (l.length : Int)) = true := by simp; omega
  clear HLO HAL HGO hn
  go_enter Try.func5, Try.ntmps5
  go_wp2_with fail
  refine (SH.out _).mono ?_
  rintro e w1 ⟨rfl, b1⟩
  have H1 := Lib.hid (H0.out.call b1)
  clear b1
  go_wp2_with fail
  go_ret
  exact ⟨rfl, H1.out.below⟩
set_option maxRecDepth 20000 in
set_option maxHeartbeats 8000000 in
theorem vdFirst_m (HLO : OLookOk) (HAL : OAllOk) (HGO : OGoodOk) (A : Option Addr) (c : Nat) (l : List VdV) (id other : K32) (it : IntV .i64) (is : Bool) (w : World) (hl : RowIn encVd 34 w w.heap.size A c l) (hn : l.length ≤ 200) :
    Calls Try.prog 5 #[.slice A l.length c, .agg (encK id).toArray, .agg (encK other).toArray, .int .i64 it.1, .bool is] w fun e w' => e = .returned (.bool true) ∧ Below w.heap.size w w' := by
  have SH := Lib.hid (fun W => vshown_any HLO HAL HGO W)
  have H0 := Lib.hid (show Holds w [(w.heap.size + 1, 27, (encK other).toArray), (w.heap.size, 27, (encK id).toArray)] ((w.alloc (.cells (encK id).toArray 27)).alloc (.cells (encK other).toArray 27)) from by
    have := ((Holds.nil w).box 27 (encK id).toArray).box 27 (encK other).toArray
    simpa only [World.size_alloc, Nat.add_assoc] using this)
  have hd : decide ((200 : Int) < (l.length : Int)) = false := by simp; omega
  have hir := wf_i64.1 it.2
  have hx1 := vd_xor1 it.1
  obtain ⟨y, hy⟩ : ∃ y, bits .xor .i64 it.1 1 = y := ⟨_, rfl⟩
  rw [hy] at hx1
  obtain ⟨z, hz⟩ : ∃ z : IntV .i64, z.1 = y := ⟨⟨y, by have := hx1.2; unfold vi64o at this; rw [wf_i64]; omega⟩, rfl⟩
  have HZ := Lib.hid hz
  have hzi : ¬ z.1 = it.1 := by rw [hz]; exact hx1.1
  obtain ⟨r, hr⟩ : ∃ r, lookF l id it.1 = r := ⟨_, rfl⟩
  obtain ⟨rd, hrd⟩ : ∃ r, lookF (l ++ [(⟨id, it, true⟩ : VdV)]) id it.1 = r := ⟨_, rfl⟩
  have HRR := Lib.hid (show r = true → rd = true from fun h => hrd ▸ lookF_snoc (hr.trans h))
  have va : lookF ((⟨id, it, is⟩ : VdV) :: l) id it.1 = is := lookF_hit rfl rfl
  have vc : lookF ((⟨id, z, !is⟩ : VdV) :: (⟨id, it, is⟩ : VdV) :: l) id it.1 = is := (lookF_miss (by simp only [true_and]; exact hzi)).trans va
  have C1 := Lib.hid (show ∀ A' c' W, RowIn encVd 34 W W.heap.size A' c' ((⟨id, it, is⟩ : VdV) :: l) → Calls Try.prog 12 #[.slice A' (l.length + 1) c', .agg (encK id).toArray, .int .i64 it.1] W fun e w' => e = .returned (.bool is) ∧ Below W.heap.size W w' from fun A' c' W h => by
    have h6 := HLO A' c' _ id it.1 W h (by rw [List.length_cons]; omega) ⟨by omega, by omega⟩
    rw [va] at h6
    exact h6)
  have C2 := Lib.hid (show ¬ other = id → ∀ A' c' W, RowIn encVd 34 W W.heap.size A' c' ((⟨other, it, !is⟩ : VdV) :: (⟨id, it, is⟩ : VdV) :: l) → Calls Try.prog 12 #[.slice A' (l.length + 1 + 1) c', .agg (encK id).toArray, .int .i64 it.1] W fun e w' => e = .returned (.bool is) ∧ Below W.heap.size W w' from fun ho A' c' W h => by
    have h6 := HLO A' c' _ id it.1 W h (by rw [List.length_cons, List.length_cons]; omega) ⟨by omega, by omega⟩
    rw [show lookF ((⟨other, it, !is⟩ : VdV) :: (⟨id, it, is⟩ : VdV) :: l) id it.1 = is from (lookF_miss (fun q => ho q.1)).trans va] at h6
    exact h6)
  have C3 := Lib.hid (show ∀ A' c' W, RowIn encVd 34 W W.heap.size A' c' ((⟨id, z, !is⟩ : VdV) :: (⟨id, it, is⟩ : VdV) :: l) → Calls Try.prog 12 #[.slice A' (l.length + 1 + 1) c', .agg (encK id).toArray, .int .i64 it.1] W fun e w' => e = .returned (.bool is) ∧ Below W.heap.size W w' from fun A' c' W h => by
    have h6 := HLO A' c' _ id it.1 W h (by rw [List.length_cons, List.length_cons]; omega) ⟨by omega, by omega⟩
    rw [vc] at h6
    exact h6)
  have C4 := Lib.hid (show ∀ A' c' W, RowIn encVd 34 W W.heap.size A' c' (l ++ [(⟨id, it, true⟩ : VdV)]) → Calls Try.prog 12 #[.slice A' (l.length + 1) c', .agg (encK id).toArray, .int .i64 it.1] W fun e w' => e = .returned (.bool rd) ∧ Below W.heap.size W w' from fun A' c' W h => by
    have h6 := HLO A' c' _ id it.1 W h (by rw [List.length_append]; simp; omega) ⟨by omega, by omega⟩
    rw [hrd, List.length_append] at h6
    exact h6)
  have C5 := Lib.hid (fun W (h : RowIn encVd 34 W W.heap.size A c l) => hr ▸ HLO A c l id it.1 W h (by omega) ⟨by omega, by omega⟩)
  have HLL := Lib.hid (show ∀ W, Below w.heap.size w W → RowIn encVd 34 W W.heap.size A c l from fun W h => (hl.below h).more h.size)
  have HN := Lib.hid hn
  clear HLO HAL HGO hl hn hr hrd hz hx1 hzi va vc hir
  go_enter Try.func5, Try.ntmps5
  go_wp2_with fail
  refine (SH.out _).mono ?_
  rintro e w1 ⟨rfl, b1⟩
  have H1 := Lib.hid (H0.out.call b1)
  clear b1 H0
  go_wp2_with (first
    | ((with_reducible refine at_load 6 ?_); refine tyKc.wpList_load rfl (.tmp 6) rfl (w.heap.size) 0 rfl id (RowC.of_blk (H3.out.at (x := (w.heap.size, 27, (encK id).toArray)) (by simp))) ?_)
    | ((with_reducible refine at_load 7 ?_); refine tyKc.wpList_load rfl (.tmp 7) rfl (w.heap.size + 1) 0 rfl other (RowC.of_blk (H3.out.at (x := (w.heap.size + 1, 27, (encK other).toArray)) (by simp))) ?_)
    | ((with_reducible refine at_load 6 ?_); refine tyKc.wpList_load rfl (.tmp 6) rfl (w.heap.size) 0 rfl id (RowC.of_blk (H2.out.at (x := (w.heap.size, 27, (encK id).toArray)) (by simp))) ?_)
    | ((with_reducible refine at_load 7 ?_); refine tyKc.wpList_load rfl (.tmp 7) rfl (w.heap.size + 1) 0 rfl other (RowC.of_blk (H2.out.at (x := (w.heap.size + 1, 27, (encK other).toArray)) (by simp))) ?_)
    | ((with_reducible refine at_load 6 ?_); refine tyKc.wpList_load rfl (.tmp 6) rfl (w.heap.size) 0 rfl id (RowC.of_blk (H1.out.at (x := (w.heap.size, 27, (encK id).toArray)) (by simp))) ?_)
    | ((with_reducible refine at_load 7 ?_); refine tyKc.wpList_load rfl (.tmp 7) rfl (w.heap.size + 1) 0 rfl other (RowC.of_blk (H1.out.at (x := (w.heap.size + 1, 27, (encK other).toArray)) (by simp))) ?_)
    | ((with_reducible refine at_build 26 ?_); refine wpList_built rfl 37 #[(0, .tmp 23), (1, .tmp 24), (2, .tmp 25)] rfl (encVd (⟨id, it, is⟩ : VdV)).toArray ((show _ = Try.prog.built 37 [(0, Value.agg (encK id).toArray), (1, Value.int .i64 it.1), (2, Value.bool is)] from congrArg (Try.prog.built 37) (by kernel_rfl)).trans (vbuilt _ (.inr rfl) id it is)) ?_)
    | ((with_reducible refine at_buildSlice 27 ?_); have HL2 := Lib.hid (show Below w1.heap.size w1 (w1.alloc (.cells (cellsOf encVd [(⟨id, it, is⟩ : VdV)]).toArray 37)) from (Below.refl _ _).alloc (Nat.le_refl _) _); have OL2 := Lib.hid (lit_own (k := 34) (n := 1) encVd_len (Blk.new w1 37 (cellsOf encVd [(⟨id, it, is⟩ : VdV)]).toArray) (Nat.le_refl _) rfl (by decide)); refine tyVd.wpList_build rfl zsVd 1 _ rfl [(⟨id, it, is⟩ : VdV)] rfl (by omega) (by omega) (by kernel_rfl) ?_)
    | ((with_reducible refine at_appendg 29 27 28 ?_); refine tyVd.wpList_appendIn rfl zcVd 48 zbVd (by omega) (.tmp 27) (.tmp 28) rfl w1.heap.size _ [(⟨id, it, is⟩ : VdV)] rfl OL2.out _ A c (l) rfl (((HLL.out _ H1.out.below).below HL2.out).more HL2.out.size) (by have := HN.out; simp; omega) (by simp) ?_; intro v2 w2 o2 g2
       have B2 := Lib.hid (HL2.out.trans (vown_grown OL2.out g2 (by simp)))
       have O2 := vown_congr o2 (show [(⟨id, it, is⟩ : VdV)] ++ (l) = (⟨id, it, is⟩ : VdV) :: l from rfl)
       obtain ⟨A2, c2, hv2, r2⟩ := RowIn.of_own encVd_len O2
       subst hv2
       have H2 := Lib.hid (H1.out.call B2.out)
       have R2 := Lib.hid (show RowIn encVd 34 w2 w2.heap.size A2 c2 ((⟨id, it, is⟩ : VdV) :: l) from r2)
       clear o2 g2 r2 O2 HL2 OL2)
    | ((with_reducible refine at_build 34 ?_); refine wpList_built rfl 37 #[(0, .tmp 30), (1, .tmp 31), (2, .tmp 33)] rfl (encVd (⟨other, it, !is⟩ : VdV)).toArray ((show _ = Try.prog.built 37 [(0, Value.agg (encK other).toArray), (1, Value.int .i64 it.1), (2, Value.bool (!is))] from congrArg (Try.prog.built 37) (by kernel_rfl)).trans (vbuilt _ (.inr rfl) other it (!is))) ?_)
    | ((with_reducible refine at_buildSlice 35 ?_); have HL3 := Lib.hid (show Below w2.heap.size w2 (w2.alloc (.cells (cellsOf encVd [(⟨other, it, !is⟩ : VdV)]).toArray 37)) from (Below.refl _ _).alloc (Nat.le_refl _) _); have OL3 := Lib.hid (lit_own (k := 34) (n := 1) encVd_len (Blk.new w2 37 (cellsOf encVd [(⟨other, it, !is⟩ : VdV)]).toArray) (Nat.le_refl _) rfl (by decide)); refine tyVd.wpList_build rfl zsVd 1 _ rfl [(⟨other, it, !is⟩ : VdV)] rfl (by omega) (by omega) (by kernel_rfl) ?_)
    | ((with_reducible refine at_appendg 37 35 36 ?_); refine tyVd.wpList_appendIn rfl zcVd 48 zbVd (by omega) (.tmp 35) (.tmp 36) rfl w2.heap.size _ [(⟨other, it, !is⟩ : VdV)] rfl OL3.out _ A2 c2 ((⟨id, it, is⟩ : VdV) :: l) rfl (((R2.out).below HL3.out).more HL3.out.size) (by have := HN.out; simp; omega) (by simp) ?_; intro v3 w3 o3 g3
       have B3 := Lib.hid (HL3.out.trans (vown_grown OL3.out g3 (by simp)))
       have O3 := vown_congr o3 (show [(⟨other, it, !is⟩ : VdV)] ++ ((⟨id, it, is⟩ : VdV) :: l) = (⟨other, it, !is⟩ : VdV) :: (⟨id, it, is⟩ : VdV) :: l from rfl)
       obtain ⟨A3, c3, hv3, r3⟩ := RowIn.of_own encVd_len O3
       subst hv3
       have H3 := Lib.hid (H2.out.call B3.out)
       have R3 := Lib.hid (show RowIn encVd 34 w3 w3.heap.size A3 c3 ((⟨other, it, !is⟩ : VdV) :: (⟨id, it, is⟩ : VdV) :: l) from r3)
       have R23 := Lib.hid ((R2.out.below B3.out).more B3.out.size)
       clear o3 g3 r3 O3 HL3 OL3)
    | ((with_reducible refine at_build 43 ?_); refine wpList_built rfl 37 #[(0, .tmp 38), (1, .tmp 40), (2, .tmp 42)] rfl (encVd (⟨id, z, !is⟩ : VdV)).toArray ((show _ = Try.prog.built 37 [(0, Value.agg (encK id).toArray), (1, Value.int .i64 y), (2, Value.bool (!is))] from congrArg (Try.prog.built 37) (by kernel_rfl)).trans (by rw [← HZ.out]; exact vbuilt _ (.inr rfl) id z (!is))) ?_)
    | ((with_reducible refine at_buildSlice 44 ?_); have HL4 := Lib.hid (show Below w3.heap.size w3 (w3.alloc (.cells (cellsOf encVd [(⟨id, z, !is⟩ : VdV)]).toArray 37)) from (Below.refl _ _).alloc (Nat.le_refl _) _); have OL4 := Lib.hid (lit_own (k := 34) (n := 1) encVd_len (Blk.new w3 37 (cellsOf encVd [(⟨id, z, !is⟩ : VdV)]).toArray) (Nat.le_refl _) rfl (by decide)); refine tyVd.wpList_build rfl zsVd 1 _ rfl [(⟨id, z, !is⟩ : VdV)] rfl (by omega) (by omega) (by kernel_rfl) ?_)
    | ((with_reducible refine at_appendg 46 44 45 ?_); refine tyVd.wpList_appendIn rfl zcVd 48 zbVd (by omega) (.tmp 44) (.tmp 45) rfl w3.heap.size _ [(⟨id, z, !is⟩ : VdV)] rfl OL4.out _ A2 c2 ((⟨id, it, is⟩ : VdV) :: l) rfl (((R23.out).below HL4.out).more HL4.out.size) (by have := HN.out; simp; omega) (by simp) ?_; intro v4 w4 o4 g4
       have B4 := Lib.hid (HL4.out.trans (vown_grown OL4.out g4 (by simp)))
       have O4 := vown_congr o4 (show [(⟨id, z, !is⟩ : VdV)] ++ ((⟨id, it, is⟩ : VdV) :: l) = (⟨id, z, !is⟩ : VdV) :: (⟨id, it, is⟩ : VdV) :: l from rfl)
       obtain ⟨A4, c4, hv4, r4⟩ := RowIn.of_own encVd_len O4
       subst hv4
       have H4 := Lib.hid (H3.out.call B4.out)
       have R4 := Lib.hid (show RowIn encVd 34 w4 w4.heap.size A4 c4 ((⟨id, z, !is⟩ : VdV) :: (⟨id, it, is⟩ : VdV) :: l) from r4)
       have R24 := Lib.hid ((R23.out.below B4.out).more B4.out.size)
       have R34 := Lib.hid ((R3.out.below B4.out).more B4.out.size)
       clear o4 g4 r4 O4 HL4 OL4))
  go_cut [14] from 55 (fun v14 wc => ∃ (A5 : Option Addr) (c5 : Nat), v14 = .slice A5 (l.length + 1) c5 ∧ Hid (RowIn encVd 34 wc wc.heap.size A5 c5 (l ++ [(⟨id, it, true⟩ : VdV)])) ∧ Hid (Below w4.heap.size w4 wc))
  case first =>
    refine wp_region_held_drew (S := Holds w [(w.heap.size + 1, 27, (encK other).toArray), (w.heap.size, 27, (encK id).toArray)]) (by kernel_rfl) (H4.out.call (Below.refl _ _).drew) ?_
    intro hS
    have EE := Lib.hid (show Below w4.heap.size w4 w4.drew from (Below.refl _ _).drew)
    clear H4 R24 R34 R4
    generalize w4.drew = wd at hS EE ⊢
    have LO := Lib.hid (And.intro EE.out.size (And.intro hS.below.size (And.intro (hS.lt (x := (w.heap.size, 27, (encK id).toArray)) (by simp)) (hS.lt (x := (w.heap.size + 1, 27, (encK other).toArray)) (by simp)))))
    have DD := Lib.hid (Below.refl wd.heap.size wd)
    refine wpAnyH_take (i := 1) (v := .slice A l.length c) rfl (by kernel_rfl) (by kernel_rfl) (by kernel_rfl) (fun _ _ _ h => h) (Or.inl ⟨by rfl, fun W _ => by go_simp; try with_reducible rfl⟩) hS ?_
    simp only [Act.put, List.getElem_toArray, List.getElem_cons_zero, List.getElem_cons_succ, List.setIfInBounds_toArray, List.set_cons_succ, List.set_cons_zero]
    refine wpAnyH_take (i := 3) (v := .agg (encK id).toArray) rfl (by kernel_rfl) (by kernel_rfl) (by kernel_rfl) (fun _ _ _ h => h) (tyKc.yieldsIf_load (by rfl) (.tmp 6) rfl w.heap.size 0 rfl id (fun _ h => RowC.of_blk (h.at (x := (w.heap.size, 27, (encK id).toArray)) (by simp)))) hS ?_
    simp only [Act.put, List.getElem_toArray, List.getElem_cons_zero, List.getElem_cons_succ, List.setIfInBounds_toArray, List.set_cons_succ, List.set_cons_zero]
    refine wpAnyH_take (i := 4) (v := .int .i64 it.1) rfl (by kernel_rfl) (by kernel_rfl) (by kernel_rfl) (fun _ _ _ h => h) (Or.inl ⟨by rfl, fun W _ => by go_simp; try with_reducible rfl⟩) hS ?_
    simp only [Act.put, List.getElem_toArray, List.getElem_cons_zero, List.getElem_cons_succ, List.setIfInBounds_toArray, List.set_cons_succ, List.set_cons_zero]
    refine wpAnyH_take (i := 5) (v := .agg (encVd (⟨id, it, true⟩ : VdV)).toArray) rfl (by kernel_rfl) (by kernel_rfl) (by kernel_rfl) (fun _ _ _ h => h) (vyields_built (by rfl) 37 #[(0, .tmp 50), (1, .tmp 51), (2, .const (.bool true))] rfl _ ((show _ = Try.prog.built 37 [(0, Value.agg (encK id).toArray), (1, Value.int .i64 it.1), (2, Value.bool true)] from congrArg (Try.prog.built 37) (by kernel_rfl)).trans (vbuilt _ (.inr rfl) id it true))) hS ?_
    simp only [Act.put, List.getElem_toArray, List.getElem_cons_zero, List.getElem_cons_succ, List.setIfInBounds_toArray, List.set_cons_succ, List.set_cons_zero]
    refine wpAnyH_ready (rs := [0, 6]) (by kernel_rfl) (by simp) ?_
    refine (AllReadyH.cons rfl (fun Kq hK => ?_) (AllReadyH.cons rfl (fun Kq hK => ?_) AllReadyH.nil))
    · go_simp
      have O0 := Lib.hid (show World.ownsRow ((wd).alloc (.cells #[] 37)) wd.heap.size 37 34 (.slice (some ⟨(wd).heap.size, 0, none⟩) 0 0) 0 [] from vown_nil (Blk.new (wd) 37 #[]) DD.out.size)
      have dx := (show Below wd.heap.size (wd) (((wd).alloc (.cells #[] 37))) from (Below.refl wd.heap.size (wd)).alloc DD.out.size _)
      have D2 := Lib.hid (DD.out.trans dx)
      clear DD
      have DD := D2
      clear D2
      refine hK.out _ _ (hS.low dx LO.out.2.1 (fun x hx => by
        simp only [List.mem_cons, List.not_mem_nil, or_false] at hx
        rcases hx with rfl | rfl
        · exact LO.out.2.2.2
        · exact LO.out.2.2.1)) (fun hS => ?_)
      clear hK Kq dx
      try simp only [Act.put, List.getElem_toArray, List.getElem_cons_zero, List.getElem_cons_succ, List.setIfInBounds_toArray, List.set_cons_succ, List.set_cons_zero]
      refine wpAnyH_ready (rs := [2, 6]) (by kernel_rfl) (by simp) ?_
      refine (AllReadyH.cons rfl (fun Kq hK => ?_) (AllReadyH.cons rfl (fun Kq hK => ?_) AllReadyH.nil))
      · refine tyVd.step_append rfl zcVd 48 zbVd (by omega) (.tmp 47) (.tmp 48) rfl wd.heap.size _ ([] : List VdV) rfl O0.out _ A c l rfl (HLL.out _ hS.below) (by have := HN.out; simp; omega) DD.out.size ?_
        intro v3 y3 p3 g3
        have e3 := vown_grown O0.out g3 DD.out.size
        have O3 := Lib.hid (vown_congr p3 (List.nil_append _))
        clear O0 p3 g3
        have dx := (show Below wd.heap.size (((wd).alloc (.cells #[] 37))) (y3) from e3)
        have D2 := Lib.hid (DD.out.trans dx)
        clear DD
        have DD := D2
        clear D2
        refine hK.out _ _ (hS.low dx LO.out.2.1 (fun x hx => by
          simp only [List.mem_cons, List.not_mem_nil, or_false] at hx
          rcases hx with rfl | rfl
          · exact LO.out.2.2.2
          · exact LO.out.2.2.1)) (fun hS => ?_)
        clear hK Kq dx
        try simp only [Act.put, List.getElem_toArray, List.getElem_cons_zero, List.getElem_cons_succ, List.setIfInBounds_toArray, List.set_cons_succ, List.set_cons_zero]
        clear e3
        refine wpAnyH_ready (rs := [6]) (by kernel_rfl) (by simp) ?_
        refine (AllReadyH.cons rfl (fun Kq hK => ?_) AllReadyH.nil)
        refine tyVd.step_build rfl zsVd 1 _ rfl [(⟨id, it, true⟩ : VdV)] rfl (by omega) (by omega) (by kernel_rfl) ?_
        have f5 := Lib.hid (show Blk ((y3).alloc (.cells (cellsOf encVd [(⟨id, it, true⟩ : VdV)]).toArray 37)) (y3).heap.size 37 (cellsOf encVd [(⟨id, it, true⟩ : VdV)]).toArray from Blk.new (y3) 37 (cellsOf encVd [(⟨id, it, true⟩ : VdV)]).toArray)
        have O9 := Lib.hid (O3.out.alloc (.cells (cellsOf encVd [(⟨id, it, true⟩ : VdV)]).toArray 37))
        clear O3
        have O3 := O9
        clear O9
        have dx := (show Below wd.heap.size (y3) (((y3).alloc (.cells (cellsOf encVd [(⟨id, it, true⟩ : VdV)]).toArray 37))) from (Below.refl wd.heap.size (y3)).alloc DD.out.size _)
        have D2 := Lib.hid (DD.out.trans dx)
        clear DD
        have DD := D2
        clear D2
        refine hK.out _ _ (hS.low dx LO.out.2.1 (fun x hx => by
          simp only [List.mem_cons, List.not_mem_nil, or_false] at hx
          rcases hx with rfl | rfl
          · exact LO.out.2.2.2
          · exact LO.out.2.2.1)) (fun hS => ?_)
        clear hK Kq dx
        try simp only [Act.put, List.getElem_toArray, List.getElem_cons_zero, List.getElem_cons_succ, List.setIfInBounds_toArray, List.set_cons_succ, List.set_cons_zero]
        refine wpAnyH_ready (rs := [7]) (by kernel_rfl) (by simp) ?_
        refine (AllReadyH.cons rfl (fun Kq hK => ?_) AllReadyH.nil)
        refine tyVd.step_append rfl zcVd 48 zbVd (by omega) (.tmp 49) (.tmp 53) rfl wd.heap.size _ l rfl O3.out _ _ 1 [(⟨id, it, true⟩ : VdV)] rfl (rowIn_blk f5.out (by simp) (by decide)) (by have := HN.out; simp; omega) DD.out.size ?_
        intro v6 y6 p6 g6
        have e6 := vown_grown O3.out g6 DD.out.size
        obtain ⟨A6, c6, rfl, r6⟩ := RowIn.of_own encVd_len p6
        have R6 := Lib.hid r6
        clear O3 p6 g6 f5 r6
        have dx := (show Below wd.heap.size (((y3).alloc (.cells (cellsOf encVd [(⟨id, it, true⟩ : VdV)]).toArray 37))) (y6) from e6)
        have D2 := Lib.hid (DD.out.trans dx)
        clear DD
        have DD := D2
        clear D2
        refine hK.out _ _ (hS.low dx LO.out.2.1 (fun x hx => by
          simp only [List.mem_cons, List.not_mem_nil, or_false] at hx
          rcases hx with rfl | rfl
          · exact LO.out.2.2.2
          · exact LO.out.2.2.1)) (fun hS => ?_)
        clear hK Kq dx
        try simp only [Act.put, List.getElem_toArray, List.getElem_cons_zero, List.getElem_cons_succ, List.setIfInBounds_toArray, List.set_cons_succ, List.set_cons_zero]
        clear e6
        refine wpAnyH_ready (rs := [8]) (by kernel_rfl) (by simp) ?_
        refine AllReadyH.cons rfl (fun Kq hK => ?_) AllReadyH.nil
        refine hK.out _ _ hS (fun hS => ?_)
        clear hK Kq
        refine wpAnyH_done (by kernel_rfl) ?_ _
        go_wp2_with fail
        go_meet
        exact ⟨A6, c6, by first | rfl | (rw [List.length_append]; rfl), R6, Lib.hid (EE.out.trans (DD.out.mono LO.out.1))⟩
      · refine tyVd.step_build rfl zsVd 1 _ rfl [(⟨id, it, true⟩ : VdV)] rfl (by omega) (by omega) (by kernel_rfl) ?_
        have f5 := Lib.hid (show Blk ((((wd).alloc (.cells #[] 37))).alloc (.cells (cellsOf encVd [(⟨id, it, true⟩ : VdV)]).toArray 37)) (((wd).alloc (.cells #[] 37))).heap.size 37 (cellsOf encVd [(⟨id, it, true⟩ : VdV)]).toArray from Blk.new (((wd).alloc (.cells #[] 37))) 37 (cellsOf encVd [(⟨id, it, true⟩ : VdV)]).toArray)
        have O9 := Lib.hid (O0.out.alloc (.cells (cellsOf encVd [(⟨id, it, true⟩ : VdV)]).toArray 37))
        clear O0
        have O0 := O9
        clear O9
        have dx := (show Below wd.heap.size (((wd).alloc (.cells #[] 37))) (((((wd).alloc (.cells #[] 37))).alloc (.cells (cellsOf encVd [(⟨id, it, true⟩ : VdV)]).toArray 37))) from (Below.refl wd.heap.size (((wd).alloc (.cells #[] 37)))).alloc DD.out.size _)
        have D2 := Lib.hid (DD.out.trans dx)
        clear DD
        have DD := D2
        clear D2
        refine hK.out _ _ (hS.low dx LO.out.2.1 (fun x hx => by
          simp only [List.mem_cons, List.not_mem_nil, or_false] at hx
          rcases hx with rfl | rfl
          · exact LO.out.2.2.2
          · exact LO.out.2.2.1)) (fun hS => ?_)
        clear hK Kq dx
        try simp only [Act.put, List.getElem_toArray, List.getElem_cons_zero, List.getElem_cons_succ, List.setIfInBounds_toArray, List.set_cons_succ, List.set_cons_zero]
        refine wpAnyH_ready (rs := [2]) (by kernel_rfl) (by simp) ?_
        refine (AllReadyH.cons rfl (fun Kq hK => ?_) AllReadyH.nil)
        refine tyVd.step_append rfl zcVd 48 zbVd (by omega) (.tmp 47) (.tmp 48) rfl wd.heap.size _ ([] : List VdV) rfl O0.out _ A c l rfl (HLL.out _ hS.below) (by have := HN.out; simp; omega) DD.out.size ?_
        intro v3 y3 p3 g3
        have f6 := Lib.hid (blk_grown f5.out g3 (fun e => by have := Option.some.inj e; simp at this <;> omega))
        clear f5
        have f5 := f6
        clear f6
        have e3 := vown_grown O0.out g3 DD.out.size
        have O3 := Lib.hid (vown_congr p3 (List.nil_append _))
        clear O0 p3 g3
        have dx := (show Below wd.heap.size (((((wd).alloc (.cells #[] 37))).alloc (.cells (cellsOf encVd [(⟨id, it, true⟩ : VdV)]).toArray 37))) (y3) from e3)
        have D2 := Lib.hid (DD.out.trans dx)
        clear DD
        have DD := D2
        clear D2
        refine hK.out _ _ (hS.low dx LO.out.2.1 (fun x hx => by
          simp only [List.mem_cons, List.not_mem_nil, or_false] at hx
          rcases hx with rfl | rfl
          · exact LO.out.2.2.2
          · exact LO.out.2.2.1)) (fun hS => ?_)
        clear hK Kq dx
        try simp only [Act.put, List.getElem_toArray, List.getElem_cons_zero, List.getElem_cons_succ, List.setIfInBounds_toArray, List.set_cons_succ, List.set_cons_zero]
        clear e3
        refine wpAnyH_ready (rs := [7]) (by kernel_rfl) (by simp) ?_
        refine (AllReadyH.cons rfl (fun Kq hK => ?_) AllReadyH.nil)
        refine tyVd.step_append rfl zcVd 48 zbVd (by omega) (.tmp 49) (.tmp 53) rfl wd.heap.size _ l rfl O3.out _ _ 1 [(⟨id, it, true⟩ : VdV)] rfl (rowIn_blk f5.out (by simp) (by decide)) (by have := HN.out; simp; omega) DD.out.size ?_
        intro v6 y6 p6 g6
        have e6 := vown_grown O3.out g6 DD.out.size
        obtain ⟨A6, c6, rfl, r6⟩ := RowIn.of_own encVd_len p6
        have R6 := Lib.hid r6
        clear O3 p6 g6 f5 r6
        have dx := (show Below wd.heap.size (y3) (y6) from e6)
        have D2 := Lib.hid (DD.out.trans dx)
        clear DD
        have DD := D2
        clear D2
        refine hK.out _ _ (hS.low dx LO.out.2.1 (fun x hx => by
          simp only [List.mem_cons, List.not_mem_nil, or_false] at hx
          rcases hx with rfl | rfl
          · exact LO.out.2.2.2
          · exact LO.out.2.2.1)) (fun hS => ?_)
        clear hK Kq dx
        try simp only [Act.put, List.getElem_toArray, List.getElem_cons_zero, List.getElem_cons_succ, List.setIfInBounds_toArray, List.set_cons_succ, List.set_cons_zero]
        clear e6
        refine wpAnyH_ready (rs := [8]) (by kernel_rfl) (by simp) ?_
        refine AllReadyH.cons rfl (fun Kq hK => ?_) AllReadyH.nil
        refine hK.out _ _ hS (fun hS => ?_)
        clear hK Kq
        refine wpAnyH_done (by kernel_rfl) ?_ _
        go_wp2_with fail
        go_meet
        exact ⟨A6, c6, by first | rfl | (rw [List.length_append]; rfl), R6, Lib.hid (EE.out.trans (DD.out.mono LO.out.1))⟩
    · refine tyVd.step_build rfl zsVd 1 _ rfl [(⟨id, it, true⟩ : VdV)] rfl (by omega) (by omega) (by kernel_rfl) ?_
      have f5 := Lib.hid (show Blk ((wd).alloc (.cells (cellsOf encVd [(⟨id, it, true⟩ : VdV)]).toArray 37)) (wd).heap.size 37 (cellsOf encVd [(⟨id, it, true⟩ : VdV)]).toArray from Blk.new (wd) 37 (cellsOf encVd [(⟨id, it, true⟩ : VdV)]).toArray)
      have dx := (show Below wd.heap.size (wd) (((wd).alloc (.cells (cellsOf encVd [(⟨id, it, true⟩ : VdV)]).toArray 37))) from (Below.refl wd.heap.size (wd)).alloc DD.out.size _)
      have D2 := Lib.hid (DD.out.trans dx)
      clear DD
      have DD := D2
      clear D2
      refine hK.out _ _ (hS.low dx LO.out.2.1 (fun x hx => by
        simp only [List.mem_cons, List.not_mem_nil, or_false] at hx
        rcases hx with rfl | rfl
        · exact LO.out.2.2.2
        · exact LO.out.2.2.1)) (fun hS => ?_)
      clear hK Kq dx
      try simp only [Act.put, List.getElem_toArray, List.getElem_cons_zero, List.getElem_cons_succ, List.setIfInBounds_toArray, List.set_cons_succ, List.set_cons_zero]
      refine wpAnyH_ready (rs := [0]) (by kernel_rfl) (by simp) ?_
      refine (AllReadyH.cons rfl (fun Kq hK => ?_) AllReadyH.nil)
      go_simp
      have O0 := Lib.hid (show World.ownsRow ((((wd).alloc (.cells (cellsOf encVd [(⟨id, it, true⟩ : VdV)]).toArray 37))).alloc (.cells #[] 37)) wd.heap.size 37 34 (.slice (some ⟨(((wd).alloc (.cells (cellsOf encVd [(⟨id, it, true⟩ : VdV)]).toArray 37))).heap.size, 0, none⟩) 0 0) 0 [] from vown_nil (Blk.new (((wd).alloc (.cells (cellsOf encVd [(⟨id, it, true⟩ : VdV)]).toArray 37))) 37 #[]) DD.out.size)
      have f6 := Lib.hid (f5.out.alloc (.cells #[] 37))
      clear f5
      have f5 := f6
      clear f6
      try simp only [World.size_alloc] at O0
      have dx := (show Below wd.heap.size (((wd).alloc (.cells (cellsOf encVd [(⟨id, it, true⟩ : VdV)]).toArray 37))) (((((wd).alloc (.cells (cellsOf encVd [(⟨id, it, true⟩ : VdV)]).toArray 37))).alloc (.cells #[] 37))) from (Below.refl wd.heap.size (((wd).alloc (.cells (cellsOf encVd [(⟨id, it, true⟩ : VdV)]).toArray 37)))).alloc DD.out.size _)
      have D2 := Lib.hid (DD.out.trans dx)
      clear DD
      have DD := D2
      clear D2
      refine hK.out _ _ (hS.low dx LO.out.2.1 (fun x hx => by
        simp only [List.mem_cons, List.not_mem_nil, or_false] at hx
        rcases hx with rfl | rfl
        · exact LO.out.2.2.2
        · exact LO.out.2.2.1)) (fun hS => ?_)
      clear hK Kq dx
      try simp only [Act.put, List.getElem_toArray, List.getElem_cons_zero, List.getElem_cons_succ, List.setIfInBounds_toArray, List.set_cons_succ, List.set_cons_zero]
      refine wpAnyH_ready (rs := [2]) (by kernel_rfl) (by simp) ?_
      refine (AllReadyH.cons rfl (fun Kq hK => ?_) AllReadyH.nil)
      refine tyVd.step_append rfl zcVd 48 zbVd (by omega) (.tmp 47) (.tmp 48) rfl wd.heap.size _ ([] : List VdV) rfl O0.out _ A c l rfl (HLL.out _ hS.below) (by have := HN.out; simp; omega) DD.out.size ?_
      intro v3 y3 p3 g3
      have f6 := Lib.hid (blk_grown f5.out g3 (fun e => by have := Option.some.inj e; simp at this <;> omega))
      clear f5
      have f5 := f6
      clear f6
      have e3 := vown_grown O0.out g3 DD.out.size
      have O3 := Lib.hid (vown_congr p3 (List.nil_append _))
      clear O0 p3 g3
      have dx := (show Below wd.heap.size (((((wd).alloc (.cells (cellsOf encVd [(⟨id, it, true⟩ : VdV)]).toArray 37))).alloc (.cells #[] 37))) (y3) from e3)
      have D2 := Lib.hid (DD.out.trans dx)
      clear DD
      have DD := D2
      clear D2
      refine hK.out _ _ (hS.low dx LO.out.2.1 (fun x hx => by
        simp only [List.mem_cons, List.not_mem_nil, or_false] at hx
        rcases hx with rfl | rfl
        · exact LO.out.2.2.2
        · exact LO.out.2.2.1)) (fun hS => ?_)
      clear hK Kq dx
      try simp only [Act.put, List.getElem_toArray, List.getElem_cons_zero, List.getElem_cons_succ, List.setIfInBounds_toArray, List.set_cons_succ, List.set_cons_zero]
      clear e3
      refine wpAnyH_ready (rs := [7]) (by kernel_rfl) (by simp) ?_
      refine (AllReadyH.cons rfl (fun Kq hK => ?_) AllReadyH.nil)
      refine tyVd.step_append rfl zcVd 48 zbVd (by omega) (.tmp 49) (.tmp 53) rfl wd.heap.size _ l rfl O3.out _ _ 1 [(⟨id, it, true⟩ : VdV)] rfl (rowIn_blk f5.out (by simp) (by decide)) (by have := HN.out; simp; omega) DD.out.size ?_
      intro v6 y6 p6 g6
      have e6 := vown_grown O3.out g6 DD.out.size
      obtain ⟨A6, c6, rfl, r6⟩ := RowIn.of_own encVd_len p6
      have R6 := Lib.hid r6
      clear O3 p6 g6 f5 r6
      have dx := (show Below wd.heap.size (y3) (y6) from e6)
      have D2 := Lib.hid (DD.out.trans dx)
      clear DD
      have DD := D2
      clear D2
      refine hK.out _ _ (hS.low dx LO.out.2.1 (fun x hx => by
        simp only [List.mem_cons, List.not_mem_nil, or_false] at hx
        rcases hx with rfl | rfl
        · exact LO.out.2.2.2
        · exact LO.out.2.2.1)) (fun hS => ?_)
      clear hK Kq dx
      try simp only [Act.put, List.getElem_toArray, List.getElem_cons_zero, List.getElem_cons_succ, List.setIfInBounds_toArray, List.set_cons_succ, List.set_cons_zero]
      clear e6
      refine wpAnyH_ready (rs := [8]) (by kernel_rfl) (by simp) ?_
      refine AllReadyH.cons rfl (fun Kq hK => ?_) AllReadyH.nil
      refine hK.out _ _ hS (fun hS => ?_)
      clear hK Kq
      refine wpAnyH_done (by kernel_rfl) ?_ _
      go_wp2_with fail
      go_meet
      exact ⟨A6, c6, by first | rfl | (rw [List.length_append]; rfl), R6, Lib.hid (EE.out.trans (DD.out.mono LO.out.1))⟩
  case rest =>
    obtain ⟨A5, c5, rfl, R5, B5⟩ := hcut
    have H5 := Lib.hid (H4.out.call B5.out)
    have P2 := Lib.hid ((R24.out.below B5.out).more B5.out.size)
    have P3 := Lib.hid ((R34.out.below B5.out).more B5.out.size)
    have P4 := Lib.hid ((R4.out.below B5.out).more B5.out.size)
    clear H4 R24 R34 R4 B5
    go_wp2_with ((with_reducible refine at_load 6 ?_); refine tyKc.wpList_load rfl (.tmp 6) rfl (w.heap.size) 0 rfl id (RowC.of_blk (H5.out.at (x := (w.heap.size, 27, (encK id).toArray)) (by simp))) ?_)
    refine (C1.out _ _ _ P2.out).mono ?_
    rintro e x1 ⟨rfl, bq⟩
    have H6 := Lib.hid (H5.out.call bq)
    have P3b := Lib.hid ((P3.out.below bq).more bq.size)
    have P4b := Lib.hid ((P4.out.below bq).more bq.size)
    have R5b := Lib.hid ((R5.out.below bq).more bq.size)
    clear bq P2 P3 P4 R5 H5
    by_cases ho : other = id
    · have HO := Lib.hid (show decide (other = id) = true from decide_eq_true ho)
      clear ho C2
      go_wp2_with (first
        | ((with_reducible refine at_loadg 6 ?_); refine tyKc.wpList_load (by rfl) (.tmp 6) rfl (w.heap.size) 0 rfl id (RowC.of_blk (H6.out.at (x := (w.heap.size, 27, (encK id).toArray)) (by simp))) ?_)
        | ((with_reducible refine at_loadg 7 ?_); refine tyKc.wpList_load (by rfl) (.tmp 7) rfl (w.heap.size + 1) 0 rfl other (RowC.of_blk (H6.out.at (x := (w.heap.size + 1, 27, (encK other).toArray)) (by simp))) ?_)
        | ((with_reducible refine at_eqlg 62 63 ?_); refine wpList_eql_rowg (by rfl) 27 27 (.tmp 62) (.tmp 63) rfl (encK other).toArray (encK id).toArray rfl rfl (by kernel_rfl) true (fun V => (eqKy_run _ _ V).trans (by rw [HO.out])) ?_; simp only [Act.put, List.setIfInBounds_toArray, List.set_cons_succ, List.set_cons_zero]))
      have H7 := H6
      have P4c := P4b
      have R5c := R5b
      with_reducible refine (C3.out _ _ _ P4c.out).mono ?_
      rintro e x3 ⟨rfl, bq⟩
      have H8 := Lib.hid (H7.out.call bq)
      have R5d := Lib.hid ((R5c.out.below bq).more bq.size)
      clear bq P4c R5c H7 P4b R5b H6
      go_wp2_with ((with_reducible refine at_loadg 6 ?_); refine tyKc.wpList_load (by rfl) (.tmp 6) rfl (w.heap.size) 0 rfl id (RowC.of_blk (H8.out.at (x := (w.heap.size, 27, (encK id).toArray)) (by simp))) ?_)
      with_reducible refine (C4.out _ _ _ R5d.out).mono ?_
      rintro e x4 ⟨rfl, bq⟩
      have H9 := Lib.hid (H8.out.call bq)
      have R5e := Lib.hid ((R5d.out.below bq).more bq.size)
      clear bq R5d H8
      cases rd with
      | true =>
        go_wp2_with ((with_reducible refine at_loadg 6 ?_); refine tyKc.wpList_load (by rfl) (.tmp 6) rfl (w.heap.size) 0 rfl id (RowC.of_blk (H9.out.at (x := (w.heap.size, 27, (encK id).toArray)) (by simp))) ?_)
        refine (C5.out _ (HLL.out _ H9.out.below)).mono ?_
        rintro e x5 ⟨rfl, bq⟩
        have H10 := Lib.hid (H9.out.call bq)
        have R5f := Lib.hid ((R5e.out.below bq).more bq.size)
        clear bq H9 R5e
        cases r with
        | false =>
          go_wp2_with fail
          go_ret
          exact ⟨by first | rfl | simp, H10.out.below⟩
        | true =>
          go_wp2_with ((with_reducible refine at_loadg 6 ?_); refine tyKc.wpList_load (by rfl) (.tmp 6) rfl (w.heap.size) 0 rfl id (RowC.of_blk (H10.out.at (x := (w.heap.size, 27, (encK id).toArray)) (by simp))) ?_)
          with_reducible refine (C4.out _ _ _ R5f.out).mono ?_
          rintro e x6 ⟨rfl, bq⟩
          have H11 := Lib.hid (H10.out.call bq)
          clear bq
          go_wp2_with fail
          go_ret
          exact ⟨by first | rfl | simp, H11.out.below⟩
      | false =>
        have hrf : r = false := by
          cases hr : r with
          | false => rfl
          | true => exact (HRR.out hr).symm
        subst hrf
        go_wp2_with ((with_reducible refine at_loadg 6 ?_); refine tyKc.wpList_load (by rfl) (.tmp 6) rfl (w.heap.size) 0 rfl id (RowC.of_blk (H9.out.at (x := (w.heap.size, 27, (encK id).toArray)) (by simp))) ?_)
        refine (C5.out _ (HLL.out _ H9.out.below)).mono ?_
        rintro e x5 ⟨rfl, bq⟩
        have H10 := Lib.hid (H9.out.call bq)
        clear bq H9
        go_wp2_with ((with_reducible refine at_loadg 6 ?_); refine tyKc.wpList_load (by rfl) (.tmp 6) rfl (w.heap.size) 0 rfl id (RowC.of_blk (H10.out.at (x := (w.heap.size, 27, (encK id).toArray)) (by simp))) ?_)
        refine (C5.out _ (HLL.out _ H10.out.below)).mono ?_
        rintro e x6 ⟨rfl, bq⟩
        have H11 := Lib.hid (H10.out.call bq)
        clear bq
        go_wp2_with fail
        go_ret
        exact ⟨by first | rfl | simp, H11.out.below⟩
    · have HO := Lib.hid (show decide (other = id) = false from decide_eq_false ho)
      have C2o := Lib.hid (C2.out ho)
      clear ho C2
      go_wp2_with (first
        | ((with_reducible refine at_loadg 6 ?_); refine tyKc.wpList_load (by rfl) (.tmp 6) rfl (w.heap.size) 0 rfl id (RowC.of_blk (H6.out.at (x := (w.heap.size, 27, (encK id).toArray)) (by simp))) ?_)
        | ((with_reducible refine at_loadg 7 ?_); refine tyKc.wpList_load (by rfl) (.tmp 7) rfl (w.heap.size + 1) 0 rfl other (RowC.of_blk (H6.out.at (x := (w.heap.size + 1, 27, (encK other).toArray)) (by simp))) ?_)
        | ((with_reducible refine at_eqlg 62 63 ?_); refine wpList_eql_rowg (by rfl) 27 27 (.tmp 62) (.tmp 63) rfl (encK other).toArray (encK id).toArray rfl rfl (by kernel_rfl) false (fun V => (eqKy_run _ _ V).trans (by rw [HO.out])) ?_; simp only [Act.put, List.setIfInBounds_toArray, List.set_cons_succ, List.set_cons_zero]))
      with_reducible refine (C2o.out _ _ _ P3b.out).mono ?_
      rintro e x2 ⟨rfl, bq⟩
      have H7 := Lib.hid (H6.out.call bq)
      have P4c := Lib.hid ((P4b.out.below bq).more bq.size)
      have R5c := Lib.hid ((R5b.out.below bq).more bq.size)
      clear bq P3b
      go_wp2_with ((with_reducible refine at_loadg 6 ?_); refine tyKc.wpList_load (by rfl) (.tmp 6) rfl (w.heap.size) 0 rfl id (RowC.of_blk (H7.out.at (x := (w.heap.size, 27, (encK id).toArray)) (by simp))) ?_)
      with_reducible refine (C3.out _ _ _ P4c.out).mono ?_
      rintro e x3 ⟨rfl, bq⟩
      have H8 := Lib.hid (H7.out.call bq)
      have R5d := Lib.hid ((R5c.out.below bq).more bq.size)
      clear bq P4c R5c H7 P4b R5b H6
      go_wp2_with ((with_reducible refine at_loadg 6 ?_); refine tyKc.wpList_load (by rfl) (.tmp 6) rfl (w.heap.size) 0 rfl id (RowC.of_blk (H8.out.at (x := (w.heap.size, 27, (encK id).toArray)) (by simp))) ?_)
      with_reducible refine (C4.out _ _ _ R5d.out).mono ?_
      rintro e x4 ⟨rfl, bq⟩
      have H9 := Lib.hid (H8.out.call bq)
      have R5e := Lib.hid ((R5d.out.below bq).more bq.size)
      clear bq R5d H8
      cases rd with
      | true =>
        go_wp2_with ((with_reducible refine at_loadg 6 ?_); refine tyKc.wpList_load (by rfl) (.tmp 6) rfl (w.heap.size) 0 rfl id (RowC.of_blk (H9.out.at (x := (w.heap.size, 27, (encK id).toArray)) (by simp))) ?_)
        refine (C5.out _ (HLL.out _ H9.out.below)).mono ?_
        rintro e x5 ⟨rfl, bq⟩
        have H10 := Lib.hid (H9.out.call bq)
        have R5f := Lib.hid ((R5e.out.below bq).more bq.size)
        clear bq H9 R5e
        cases r with
        | false =>
          go_wp2_with fail
          go_ret
          exact ⟨by first | rfl | simp, H10.out.below⟩
        | true =>
          go_wp2_with ((with_reducible refine at_loadg 6 ?_); refine tyKc.wpList_load (by rfl) (.tmp 6) rfl (w.heap.size) 0 rfl id (RowC.of_blk (H10.out.at (x := (w.heap.size, 27, (encK id).toArray)) (by simp))) ?_)
          with_reducible refine (C4.out _ _ _ R5f.out).mono ?_
          rintro e x6 ⟨rfl, bq⟩
          have H11 := Lib.hid (H10.out.call bq)
          clear bq
          go_wp2_with fail
          go_ret
          exact ⟨by first | rfl | simp, H11.out.below⟩
      | false =>
        have hrf : r = false := by
          cases hr : r with
          | false => rfl
          | true => exact (HRR.out hr).symm
        subst hrf
        go_wp2_with ((with_reducible refine at_loadg 6 ?_); refine tyKc.wpList_load (by rfl) (.tmp 6) rfl (w.heap.size) 0 rfl id (RowC.of_blk (H9.out.at (x := (w.heap.size, 27, (encK id).toArray)) (by simp))) ?_)
        refine (C5.out _ (HLL.out _ H9.out.below)).mono ?_
        rintro e x5 ⟨rfl, bq⟩
        have H10 := Lib.hid (H9.out.call bq)
        clear bq H9
        go_wp2_with ((with_reducible refine at_loadg 6 ?_); refine tyKc.wpList_load (by rfl) (.tmp 6) rfl (w.heap.size) 0 rfl id (RowC.of_blk (H10.out.at (x := (w.heap.size, 27, (encK id).toArray)) (by simp))) ?_)
        refine (C5.out _ (HLL.out _ H10.out.below)).mono ?_
        rintro e x6 ⟨rfl, bq⟩
        have H11 := Lib.hid (H10.out.call bq)
        clear bq
        go_wp2_with fail
        go_ret
        exact ⟨by first | rfl | simp, H11.out.below⟩
set_option maxRecDepth 20000 in
set_option maxHeartbeats 8000000 in
theorem vdFirst_walk (HLO : OLookOk) (HAL : OAllOk) (HGO : OGoodOk) (A : Option Addr) (c : Nat) (l : List VdV) (id other : K32) (it : IntV .i64) (is : Bool) (w : World) (hl : RowIn encVd 34 w w.heap.size A c l) :
    Calls Try.prog 5 #[.slice A l.length c, .agg (encK id).toArray, .agg (encK other).toArray, .int .i64 it.1, .bool is] w fun e w' => e = .returned (.bool true) ∧ Below w.heap.size w w' := by
  by_cases h : 200 < l.length
  · exact vdFirst_h HLO HAL HGO A c l id other it is w h
  · exact vdFirst_m HLO HAL HGO A c l id other it is w hl (by omega)
end Go.Proofs.Ythepiegaoekccaa
