/- OracleGood. Written by genLVf.py. -/
import Derived.Test.YthepiegaoekccaaLVe
namespace Go.Proofs.Ythepiegaoekccaa
open Go.RowKit
theorem vbuilt2 (t : TypeId) (ht : t = 36 ∨ t = 37) (k : K32) (z : IntV .i64) : Try.prog.built t [(0, .agg (encK k).toArray), (1, .int .i64 z.1)] = some (encVd ⟨k, z, false⟩).toArray := by
  obtain ⟨l, hl⟩ := k
  iterate 32 (rcases l with _ | ⟨b, l⟩; · simp at hl)
  rcases l with _ | ⟨b, l⟩
  · rcases ht with rfl | rfl <;> kernel_rfl
  · simp at hl
theorem vyields_built {P : Program} {ops : Array Oper} {S : World → Prop} {a : Act} {o : Oper} (hw : Region.wanted o (yielded ops a.tmps) = true) (t : TypeId) (parts : Array (Nat × Operand)) (ho : o.op = .build t parts) (cells : Array Value)
    (hb : P.built t (parts.map fun (i, x) => (i, a.eval x)).toList = some cells) : YieldsIf P ops S o (.agg cells) a :=
  .inl ⟨hw, fun w _ => by
    unfold execOp
    simp only [ho, Sem.run_bind, run_build w t _ cells hb, Result.andThen_ok]
    rfl⟩
set_option maxRecDepth 20000 in
set_option maxHeartbeats 8000000 in
theorem vdGood_h (HLO : OLookOk) (HAL : OAllOk) (HGO : OGoodOk) (A : Option Addr) (c : Nat) (l : List VdV) (id : K32) (k b : IntV .u8) (w : World) (hn : 200 < l.length) :
    Calls Try.prog 4 #[.slice A l.length c, .agg (encK id).toArray, .int .u8 k.1, .int .u8 b.1] w fun e w' => e = .returned (.bool true) ∧ Below w.heap.size w w' := by
  have SH := Lib.hid (fun W => vshown_any HLO HAL HGO W)
  have H0 := Lib.hid (show Holds w [(w.heap.size, 27, (encK id).toArray)] (w.alloc (.cells (encK id).toArray 27)) from (Holds.nil w).box 27 (encK id).toArray)
  have hd : decide ((200 : Int) < (l.length : Int)) = true := by simp; omega
  clear HLO HAL HGO hn
  go_enter Try.func4, Try.ntmps4
  go_wp2_with fail
  refine (SH.out _).mono ?_
  rintro e w1 ⟨rfl, b1⟩
  have H1 := Lib.hid (H0.out.call b1)
  clear b1
  go_wp2_with fail
  go_ret
  exact ⟨rfl, H1.out.below⟩
set_option maxRecDepth 20000 in
set_option maxHeartbeats 8000000 in
theorem vdGood_m (HLO : OLookOk) (HAL : OAllOk) (HGO : OGoodOk) (A : Option Addr) (c : Nat) (l : List VdV) (id : K32) (k b : IntV .u8) (w : World) (hl : RowIn encVd 34 w w.heap.size A c l) (hn : l.length ≤ 200) :
    Calls Try.prog 4 #[.slice A l.length c, .agg (encK id).toArray, .int .u8 k.1, .int .u8 b.1] w fun e w' => e = .returned (.bool true) ∧ Below w.heap.size w w' := by
  have SH := Lib.hid (fun W => vshown_any HLO HAL HGO W)
  have H0 := Lib.hid (show Holds w [(w.heap.size, 27, (encK id).toArray)] (w.alloc (.cells (encK id).toArray 27)) from (Holds.nil w).box 27 (encK id).toArray)
  have hd : decide ((200 : Int) < (l.length : Int)) = false := by simp; omega
  have hkr := wf_u8v k
  have hbr := wf_u8v b
  obtain ⟨N, hN⟩ := Int.eq_ofNat_of_zero_le hkr.1
  have hkw : IntKind.i64.wrap k.1 = (N : Int) := by rw [IntKind.wrap_i64]; omega
  have hbw : IntKind.i64.wrap b.1 = b.1 := by rw [IntKind.wrap_i64]; omega
  have hn1 : wrap64 ((N : Int) + 1) = (N : Int) + 1 := by unfold wrap64; omega
  have hN1 : N ≤ 255 := by omega
  have hgo : goodF id (N : Int) = goodL id N := by unfold goodF; rw [if_neg (by omega), Int.toNat_natCast]
  have C0 := Lib.hid (fun W => hgo ▸ HGO id (N : Int) W ⟨by omega, by omega⟩)
  obtain ⟨al, hal⟩ : ∃ al, goodL id N ++ l = al := ⟨_, rfl⟩
  have HAL2 := Lib.hid hal
  have hall : al.length ≤ 455 := by rw [← hal, List.length_append, goodL_len]; omega
  obtain ⟨r, hr⟩ : ∃ r, lookF l id (N : Int) = r := ⟨_, rfl⟩
  have v1 : allVd al id (N : Int) = true := hal ▸ allVd_good (by omega)
  have v2 : allVd al id ((N : Int) + 1) = r := by rw [← hal, allVd_good2 (by omega), hr]
  have v3 := allVd_good1 (id := id) (n := N) (by omega)
  have C1 := Lib.hid (fun A' c' W (h : RowIn encVd 34 W W.heap.size A' c' al) => v1 ▸ HAL A' c' al id (N : Int) W h (by omega) ⟨by omega, by omega⟩)
  have C2 := Lib.hid (show ∀ A' c' W, RowIn encVd 34 W W.heap.size A' c' (goodL id N) → Calls Try.prog 15 #[.slice A' N c', .agg (encK id).toArray, .int .i64 ((N : Int) + 1)] W fun e w' => e = .returned (.bool false) ∧ Below W.heap.size W w' from fun A' c' W h => by
    have h6 := HAL A' c' (goodL id N) id ((N : Int) + 1) W h (by rw [goodL_len]; omega) ⟨by omega, by omega⟩
    rw [v3, goodL_len] at h6
    exact h6)
  have C3 := Lib.hid (fun A' c' W (h : RowIn encVd 34 W W.heap.size A' c' al) => v2 ▸ HAL A' c' al id ((N : Int) + 1) W h (by omega) ⟨by omega, by omega⟩)
  have C4 := Lib.hid (fun W (h : RowIn encVd 34 W W.heap.size A c l) => hr ▸ HLO A c l id (N : Int) W h (by omega) ⟨by omega, by omega⟩)
  have C5 := Lib.hid (show ∀ (m : IntV .i64), 0 ≤ m.1 → m.1 < (N : Int) → ∀ A' c' W, RowIn encVd 34 W W.heap.size A' c' (⟨id, m, false⟩ :: al) → Calls Try.prog 15 #[.slice A' (al.length + 1) c', .agg (encK id).toArray, .int .i64 (N : Int)] W fun e w' => e = .returned (.bool false) ∧ Below W.heap.size W w' from fun m h1 h2 A' c' W h => by
    have h6 := HAL A' c' (⟨id, m, false⟩ :: al) id (N : Int) W h (by rw [List.length_cons]; omega) ⟨by omega, by omega⟩
    rw [allVd_first h1 h2] at h6
    exact h6)
  have C6 := Lib.hid (show ∀ (m : IntV .i64), 0 ≤ m.1 → m.1 < (N : Int) → ∀ A' c' W, RowIn encVd 34 W W.heap.size A' c' (⟨id, m, false⟩ :: al) → Calls Try.prog 15 #[.slice A' (al.length + 1) c', .agg (encK id).toArray, .int .i64 m.1] W fun e w' => e = .returned (.bool true) ∧ Below W.heap.size W w' from fun m h1 h2 A' c' W h => by
    have h6 := HAL A' c' (⟨id, m, false⟩ :: al) id m.1 W h (by rw [List.length_cons]; omega) ⟨by omega, by omega⟩
    rw [allVd_below h2 v1] at h6
    exact h6)
  have HLL := Lib.hid (show ∀ W, Below w.heap.size w W → RowIn encVd 34 W W.heap.size A c l from fun W h => (hl.below h).more h.size)
  have HLN := Lib.hid hn
  have HALL := Lib.hid hall
  have HB := Lib.hid hbr
  clear HLO HAL HGO hl hn hgo hal hr v1 v2 v3 hkr hN hall hbr
  go_enter Try.func4, Try.ntmps4
  go_wp2_with fail
  refine (SH.out _).mono ?_
  rintro e w1 ⟨rfl, b1⟩
  have H1 := Lib.hid (H0.out.call b1)
  clear b1 H0
  go_wp2_with ((with_reducible refine at_load 5 ?_); refine tyKc.wpList_load rfl (.tmp 5) rfl (w.heap.size) 0 rfl id (RowC.of_blk (H1.out.at (x := (w.heap.size, 27, (encK id).toArray)) (by simp))) ?_)
  refine (C0.out _).mono ?_
  rintro e w2 ⟨A2, c2, rfl, r2, b2⟩
  have H2 := Lib.hid (H1.out.call b2)
  have R2 := Lib.hid r2
  clear b2 r2 H1
  rw [goodL_len]
  have HX0 := Lib.hid (show Below w2.heap.size w2 (w2.alloc (.cells #[] 37)) from (Below.refl _ _).alloc (Nat.le_refl _) _)
  have ON := Lib.hid (show World.ownsRow (w2.alloc (.cells #[] 37)) w2.heap.size 37 34 (.slice (some ⟨w2.heap.size, 0, none⟩) 0 0) 0 [] from vown_nil (Blk.new w2 37 #[]) (Nat.le_refl _))
  go_wp2_with (first
    | ((with_reducible refine at_appendg 28 26 27 ?_); refine tyVd.wpList_appendIn rfl zcVd 48 zbVd (by omega) (.tmp 26) (.tmp 27) rfl w2.heap.size _ ([] : List VdV) rfl ON.out _ A2 c2 (goodL id N) (by rw [goodL_len]; rfl) ((R2.out.below HX0.out).more HX0.out.size) (by rw [goodL_len]; simp; omega) (by simp) ?_; intro v3 w3 o3 g3
       rw [List.nil_append] at o3
       have O3 := Lib.hid o3
       have X3 := Lib.hid (HX0.out.trans (vown_grown ON.out g3 (by simp)))
       clear o3 g3)
    | ((with_reducible refine at_appendg 30 28 29 ?_); refine tyVd.wpList_appendIn rfl zcVd 48 zbVd (by omega) (.tmp 28) (.tmp 29) rfl w2.heap.size _ (goodL id N) rfl O3.out _ A c l rfl (HLL.out _ (H2.out.below.trans (X3.out.mono H2.out.below.size))) (by rw [goodL_len]; have := HLN.out; omega) X3.out.size ?_; intro v4 w4 o4 g4
       rw [HAL2.out] at o4
       have O4 := Lib.hid o4
       have X4 := Lib.hid (X3.out.trans (vown_grown O3.out g4 X3.out.size))
       clear o4 g4))
  obtain ⟨A4, c4, rfl, r4⟩ := RowIn.of_own encVd_len O4.out
  have H4 := Lib.hid (H2.out.call X4.out)
  have R4 := Lib.hid r4
  have R24 := Lib.hid ((R2.out.below X4.out).more X4.out.size)
  clear r4 O4 X4 O3 X3 HX0 H2 R2 ON
  have D5 := Lib.hid (show ∀ W, From w4 W → RowC W w.heap.size 0 (encK id) from fun W hC => RowC.of_blk ((Lib.hid (H4.out.call hC.below)).out.at (x := (w.heap.size, 27, (encK id).toArray)) (by simp)))
  have E1 := Lib.hid (fun W (hC : From w4 W) => C1.out A4 c4 W ((R4.out.below hC.below).more hC.below.size))
  have E2 := Lib.hid (fun W (hC : From w4 W) => C2.out A2 c2 W ((R24.out.below hC.below).more hC.below.size))
  have E3 := Lib.hid (fun W (hC : From w4 W) => C3.out A4 c4 W ((R4.out.below hC.below).more hC.below.size))
  have E4 := Lib.hid (fun W (hC : From w4 W) => C4.out W (HLL.out W (H4.out.below.trans (hC.below.mono H4.out.below.size))))
  go_wp2_with fail
  refine wp_region_from (by kernel_rfl) (by kernel_rfl) ?_
  repeat (first
    | go_big_quiet_skip
    | ((with_reducible refine at_qload 5 ?_); refine tyKc.wpQuiet_load (by rfl) (.tmp 5) rfl (w.heap.size) 0 rfl id (D5.out) ?_; simp only [Act.put, List.setIfInBounds_toArray, List.set_cons_succ, List.set_cons_zero])
    | (go_big_quiet_want; go_big_quiet_op; refine ⟨_, fun _ _ => by with_reducible rfl, ?_⟩; go_big_quiet_on)
    | go_big_quiet_step ((intro hC; first
        | (go_at_call 15; with_reducible exact (E1.out _ hC).mono fun _ _ h => ⟨h.1, hC.call h.2⟩)
        | (go_at_call 15; with_reducible exact (E2.out _ hC).mono fun _ _ h => ⟨h.1, hC.call h.2⟩)
        | (go_at_call 15; with_reducible exact (E3.out _ hC).mono fun _ _ h => ⟨h.1, hC.call h.2⟩)
        | (go_at_call 12; with_reducible exact (E4.out _ hC).mono fun _ _ h => ⟨h.1, hC.call h.2⟩))))
  refine wpQuiet_nil ?_
  intro w9 hC
  have H5 := Lib.hid (H4.out.call hC.below)
  have R5 := Lib.hid ((R4.out.below hC.below).more hC.below.size)
  clear hC D5 E1 E2 E3 E4 H4 R4 R24
  by_cases h0 : N = 0
  · have hd0 : ((N : Int) == 0) = true := beq_iff_eq.mpr (by omega)
    go_wp2_with fail
    go_ret
    exact ⟨by first | rfl | simp, H5.out.below⟩
  · have hd0 : ((N : Int) == 0) = false := beq_eq_false_iff_ne.mpr (by omega)
    have hd1 : ¬ (N : Int) = 0 := by omega
    obtain ⟨m, hm⟩ : ∃ m, b.1.tmod (N : Int) = m := ⟨_, rfl⟩
    have hm0 : 0 ≤ m := hm ▸ Int.tmod_nonneg (N : Int) HB.out.1
    have hm1 : m < (N : Int) := hm ▸ Int.tmod_lt_of_pos b.1 (by omega)
    have hmw : IntKind.i64.wrap m = m := by rw [IntKind.wrap_i64]; omega
    obtain ⟨M, hM⟩ : ∃ M : IntV .i64, M.1 = m := ⟨⟨m, by rw [wf_i64]; omega⟩, rfl⟩
    have HM := Lib.hid hM
    have F1 := C5.out M (by omega) (by omega)
    have F2 := C6.out M (by omega) (by omega)
    rw [hM] at F2
    have G1 := Lib.hid F1
    have G2 := Lib.hid F2
    clear F1 F2 hM C5 C6 hm0 hm1
    go_wp2_with fail
    refine wp_region_held_drew (S := Holds w [(w.heap.size, 27, (encK id).toArray)]) (by kernel_rfl) (H5.out.call (Below.refl _ _).drew) ?_
    intro hS
    have R6 := Lib.hid (show RowIn encVd 34 w9.drew w9.drew.heap.size A4 c4 al from (R5.out.below (Below.refl _ _).drew).more (Nat.le_refl _))
    generalize w9.drew = wd at hS R6 ⊢
    clear H5 R5
    have HWD := Lib.hid (And.intro hS.below.size (hS.lt (x := (w.heap.size, 27, (encK id).toArray)) (by simp)))
    refine wpAnyH_take (i := 0) (v := .agg (encK id).toArray) rfl (by kernel_rfl) (by kernel_rfl) (by kernel_rfl) (fun _ _ _ h => h) (tyKc.yieldsIf_load (by rfl) (.tmp 5) rfl w.heap.size 0 rfl id (fun _ h => RowC.of_blk (h.at (x := (w.heap.size, 27, (encK id).toArray)) (by simp)))) hS ?_
    simp only [Act.put, List.getElem_toArray, List.getElem_cons_zero, List.setIfInBounds_toArray, List.set_cons_succ, List.set_cons_zero]
    refine wpAnyH_take (i := 1) (v := .int .u8 b.1) rfl (by kernel_rfl) (by kernel_rfl) (by kernel_rfl) (fun _ _ _ h => h) (Or.inl ⟨by rfl, fun W _ => by go_simp; try with_reducible rfl⟩) hS ?_
    simp only [Act.put, List.getElem_toArray, List.getElem_cons_zero, List.getElem_cons_succ, List.setIfInBounds_toArray, List.set_cons_succ, List.set_cons_zero]
    refine wpAnyH_take (i := 2) (v := .int .i64 b.1) rfl (by kernel_rfl) (by kernel_rfl) (by kernel_rfl) (fun _ _ _ h => h) (Or.inl ⟨by rfl, fun W _ => by go_simp; try with_reducible rfl⟩) hS ?_
    simp only [Act.put, List.getElem_toArray, List.getElem_cons_zero, List.getElem_cons_succ, List.setIfInBounds_toArray, List.set_cons_succ, List.set_cons_zero]
    refine wpAnyH_take (i := 3) (v := .int .i64 (N : Int)) rfl (by kernel_rfl) (by kernel_rfl) (by kernel_rfl) (fun _ _ _ h => h) (Or.inl ⟨by rfl, fun W _ => by go_simp; try with_reducible rfl⟩) hS ?_
    simp only [Act.put, List.getElem_toArray, List.getElem_cons_zero, List.getElem_cons_succ, List.setIfInBounds_toArray, List.set_cons_succ, List.set_cons_zero]
    refine wpAnyH_take (i := 4) (v := .int .i64 m) rfl (by kernel_rfl) (by kernel_rfl) (by kernel_rfl) (fun _ _ _ h => h) (Or.inl ⟨by rfl, fun W _ => by go_simp; try with_reducible rfl⟩) hS ?_
    simp only [Act.put, List.getElem_toArray, List.getElem_cons_zero, List.getElem_cons_succ, List.setIfInBounds_toArray, List.set_cons_succ, List.set_cons_zero]
    refine wpAnyH_take (i := 5) (v := .agg (encVd (⟨id, M, false⟩ : VdV)).toArray) rfl (by kernel_rfl) (by kernel_rfl) (by kernel_rfl) (fun _ _ _ h => h) (vyields_built (by rfl) 37 #[(0, .tmp 63), (1, .tmp 67)] rfl _ ((show _ = Try.prog.built 37 [(0, Value.agg (encK id).toArray), (1, Value.int .i64 m)] from congrArg (Try.prog.built 37) (by kernel_rfl)).trans (by rw [← HM.out]; exact vbuilt2 _ (.inr rfl) id M))) hS ?_
    simp only [Act.put, List.getElem_toArray, List.getElem_cons_zero, List.getElem_cons_succ, List.setIfInBounds_toArray, List.set_cons_succ, List.set_cons_zero]
    refine wpAnyH_take (i := 7) (v := .slice A4 al.length c4) rfl (by kernel_rfl) (by kernel_rfl) (by kernel_rfl) (fun _ _ _ h => h) (Or.inl ⟨by rfl, fun W _ => by go_simp; try with_reducible rfl⟩) hS ?_
    simp only [Act.put, List.getElem_toArray, List.getElem_cons_zero, List.getElem_cons_succ, List.setIfInBounds_toArray, List.set_cons_succ, List.set_cons_zero]
    refine wpAnyH_ready (rs := [6]) (by kernel_rfl) (by simp) ?_
    refine AllReadyH.cons rfl (fun Kq hK => ?_) AllReadyH.nil
    refine tyVd.step_build rfl zsVd 1 _ rfl [(⟨id, M, false⟩ : VdV)] rfl (by omega) (by omega) (by kernel_rfl) ?_
    have hb := (Below.refl wd.heap.size wd).alloc (Nat.le_refl _) (.cells (cellsOf encVd [(⟨id, M, false⟩ : VdV)]).toArray 37)
    have R7 := Lib.hid ((R6.out.below hb).more hb.size)
    have O7 := Lib.hid (lit_own (k := 34) (n := 1) encVd_len (Blk.new wd 37 (cellsOf encVd [(⟨id, M, false⟩ : VdV)]).toArray) (Nat.le_refl _) rfl (by decide))
    refine hK.out _ _ (hS.call hb) (fun hS => ?_)
    clear hK Kq hb R6
    try simp only [Act.put, List.getElem_toArray, List.getElem_cons_zero, List.getElem_cons_succ, List.setIfInBounds_toArray, List.set_cons_succ, List.set_cons_zero]
    refine wpAnyH_ready (rs := [8]) (by kernel_rfl) (by simp) ?_
    refine AllReadyH.cons rfl (fun Kq hK => ?_) AllReadyH.nil
    refine tyVd.step_append rfl zcVd 48 zbVd (by omega) (.tmp 69) (.tmp 70) rfl wd.heap.size _ [(⟨id, M, false⟩ : VdV)] rfl O7.out _ A4 c4 al rfl R7.out (by have := HALL.out; simp; omega) (by simp) ?_
    intro v3 y3 p3 g3
    have e3 := vown_grown O7.out g3 (by simp)
    have p4 := vown_congr p3 (show [(⟨id, M, false⟩ : VdV)] ++ al = (⟨id, M, false⟩ : VdV) :: al from rfl)
    obtain ⟨A8, c8, rfl, r8⟩ := RowIn.of_own encVd_len p4
    have R8 := Lib.hid (show RowIn encVd 34 y3 y3.heap.size A8 c8 ((⟨id, M, false⟩ : VdV) :: al) from r8)
    refine hK.out _ _ (hS.low e3 HWD.out.1 (fun x hx => by rw [List.mem_singleton] at hx; rw [hx]; exact HWD.out.2)) (fun hS => ?_)
    clear hK Kq e3 p3 p4 g3 r8 O7 R7
    try simp only [Act.put, List.getElem_toArray, List.getElem_cons_zero, List.getElem_cons_succ, List.setIfInBounds_toArray, List.set_cons_succ, List.set_cons_zero]
    refine wpAnyH_ready (rs := [9]) (by kernel_rfl) (by simp) ?_
    refine AllReadyH.cons rfl (fun Kq hK => ?_) AllReadyH.nil
    refine hK.out _ _ hS (fun hS => ?_)
    clear hK Kq
    refine wpAnyH_done (by kernel_rfl) ?_ _
    have H8 := Lib.hid hS
    clear hS
    have D5 := Lib.hid (show ∀ W, From y3 W → RowC W w.heap.size 0 (encK id) from fun W hC => RowC.of_blk ((Lib.hid (H8.out.call hC.below)).out.at (x := (w.heap.size, 27, (encK id).toArray)) (by simp)))
    have E1 := Lib.hid (fun W (hC : From y3 W) => G1.out A8 c8 W ((R8.out.below hC.below).more hC.below.size))
    have E2 := Lib.hid (fun W (hC : From y3 W) => G2.out A8 c8 W ((R8.out.below hC.below).more hC.below.size))
    go_wp2_with fail
    refine wp_region_from (by kernel_rfl) (by kernel_rfl) ?_
    repeat (first
      | go_big_quiet_skip
      | ((with_reducible refine at_qload 5 ?_); refine tyKc.wpQuiet_load (by rfl) (.tmp 5) rfl (w.heap.size) 0 rfl id (D5.out) ?_; simp only [Act.put, List.setIfInBounds_toArray, List.set_cons_succ, List.set_cons_zero])
      | (go_big_quiet_want; go_big_quiet_op; refine ⟨_, fun _ _ => by with_reducible rfl, ?_⟩; go_big_quiet_on)
      | go_big_quiet_step ((intro hC; first
          | (go_at_call 15; with_reducible exact (E1.out _ hC).mono fun _ _ h => ⟨h.1, hC.call h.2⟩)
          | (go_at_call 15; with_reducible exact (E2.out _ hC).mono fun _ _ h => ⟨h.1, hC.call h.2⟩))))
    refine wpQuiet_nil ?_
    intro w9 hC
    have B9 := Lib.hid (H8.out.below.trans (hC.below.mono H8.out.below.size))
    clear hC
    go_wp2_with fail
    go_ret
    exact ⟨by first | rfl | simp, B9.out⟩
set_option maxRecDepth 20000 in
set_option maxHeartbeats 8000000 in
theorem vdGood_walk (HLO : OLookOk) (HAL : OAllOk) (HGO : OGoodOk) (A : Option Addr) (c : Nat) (l : List VdV) (id : K32) (k b : IntV .u8) (w : World) (hl : RowIn encVd 34 w w.heap.size A c l) :
    Calls Try.prog 4 #[.slice A l.length c, .agg (encK id).toArray, .int .u8 k.1, .int .u8 b.1] w fun e w' => e = .returned (.bool true) ∧ Below w.heap.size w w' := by
  by_cases h : 200 < l.length
  · exact vdGood_h HLO HAL HGO A c l id k b w h
  · exact vdGood_m HLO HAL HGO A c l id k b w hl (by omega)
end Go.Proofs.Ythepiegaoekccaa
