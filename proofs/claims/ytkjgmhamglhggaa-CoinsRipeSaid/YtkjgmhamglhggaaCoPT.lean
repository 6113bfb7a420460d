/- The project's Less, Ripe, Find, and the closures of its set. Written by genCoPT.py. -/
import Derived.Test.YtkjgmhamglhggaaCoPS
import Derived.Test.YtkjgmhamglhggaaKeyO
namespace Go.Proofs.Ytkjgmhamglhggaa
open Go.RowKit
set_option maxRecDepth 20000 in
set_option maxHeartbeats 2000000 in
theorem pLess_r (a b : PtV) (w : World) :
    Calls Try.prog 19 #[.agg (encKI .u32 a).toArray, .agg (encKI .u32 b).toArray] w fun e w' => e = .returned (.bool (ltP a b)) ∧ Below w.heap.size w w' := by
  obtain ⟨r, hr⟩ : ∃ r, ltP a b = r := ⟨_, rfl⟩
  rw [hr]
  unfold ltP at hr
  have B0 := Lib.hid (show Below w.heap.size w ((w.alloc (.cells (encKI .u32 a).toArray 32)).alloc (.cells (encKI .u32 b).toArray 32)) from ((Below.refl w.heap.size w).alloc (Nat.le_refl _) _).alloc (by simp) _)
  have K0 := Lib.hid (show Blk ((w.alloc (.cells (encKI .u32 a).toArray 32)).alloc (.cells (encKI .u32 b).toArray 32)) w.heap.size 32 (encKI .u32 a).toArray from (Blk.new w 32 (encKI .u32 a).toArray).alloc _)
  have K1 := Lib.hid (show Blk ((w.alloc (.cells (encKI .u32 a).toArray 32)).alloc (.cells (encKI .u32 b).toArray 32)) (w.heap.size + 1) 32 (encKI .u32 b).toArray from blk_new (g := w.heap.size + 1) 32 (encKI .u32 b).toArray (by simp))
  have c0 : ((w.alloc (.cells (encKI .u32 a).toArray 32)).alloc (.cells (encKI .u32 b).toArray 32)).cell? ⟨w.heap.size, 32, none⟩ = some (.int .u32 a.2.1) := by have := RowC.ki_int (RowC.of_blk K0.out); simpa using this
  have c1 : ((w.alloc (.cells (encKI .u32 a).toArray 32)).alloc (.cells (encKI .u32 b).toArray 32)).cell? ⟨w.heap.size + 1, 32, none⟩ = some (.int .u32 b.2.1) := by have := RowC.ki_int (RowC.of_blk K1.out); simpa using this
  obtain ⟨q0, hq0⟩ : ∃ q, ltK a.1 b.1 = q := ⟨_, rfl⟩
  obtain ⟨q2, hq2⟩ : ∃ q, decide (a.2.1 < b.2.1) = q := ⟨_, rfl⟩
  have HC := Lib.hid (show ∀ W, Calls Try.prog 42 #[.agg (encK a.1).toArray, .agg (encK b.1).toArray] W fun e w' => e = .returned (.bool q0) ∧ Below W.heap.size W w' from fun W => by
    have := less_any a.1 b.1 W
    rw [← encK_arr, ← encK_arr, hq0] at this
    exact this.mono fun _ _ h => ⟨h.1, h.2.below⟩)
  by_cases he : a.1 = b.1
  · have HE := Lib.hid (show decide (a.1 = b.1) = true from decide_eq_true he)
    have HR := Lib.hid (show q2 = r by rw [← hr, he, ltK_irrefl, hq2]; simp)
    clear hr hq0 he
    go_enter Try.func19, Try.ntmps19
    go_wp2_with (first
      | ((with_reducible refine at_loadg 5 ?_); refine tyKc.wpList_load (by rfl) (.tmp 5) rfl (w.heap.size) (0) rfl (a.1) (RowC.ki_key (RowC.of_blk K0.out)) ?_)
      | ((with_reducible refine at_loadg 7 ?_); refine tyKc.wpList_load (by rfl) (.tmp 7) rfl (w.heap.size + 1) (0) rfl (b.1) (RowC.ki_key (RowC.of_blk K1.out)) ?_)
      | ((with_reducible refine at_neqlg 6 8 ?_); refine wpList_neq_rowg (by rfl) 27 27 (.tmp 6) (.tmp 8) rfl (encK a.1).toArray (encK b.1).toArray rfl rfl (by kernel_rfl) true (fun V => (eqKy_run _ _ V).trans (by rw [HE.out])) ?_; simp only [Act.put, List.setIfInBounds_toArray, List.set_cons_succ, List.set_cons_zero]))
    go_ret
    exact ⟨by rw [← HR.out]; rfl, B0.out⟩
  · have HE := Lib.hid (show decide (a.1 = b.1) = false from decide_eq_false he)
    have HR := Lib.hid (show q0 = r by rw [← hr, hq0, decide_eq_false he]; simp)
    clear hr hq0 he
    go_enter Try.func19, Try.ntmps19
    go_wp2_with (first
      | ((with_reducible refine at_loadg 5 ?_); refine tyKc.wpList_load (by rfl) (.tmp 5) rfl (w.heap.size) (0) rfl (a.1) (RowC.ki_key (RowC.of_blk K0.out)) ?_)
      | ((with_reducible refine at_loadg 7 ?_); refine tyKc.wpList_load (by rfl) (.tmp 7) rfl (w.heap.size + 1) (0) rfl (b.1) (RowC.ki_key (RowC.of_blk K1.out)) ?_)
      | ((with_reducible refine at_neqlg 6 8 ?_); refine wpList_neq_rowg (by rfl) 27 27 (.tmp 6) (.tmp 8) rfl (encK a.1).toArray (encK b.1).toArray rfl rfl (by kernel_rfl) false (fun V => (eqKy_run _ _ V).trans (by rw [HE.out])) ?_; simp only [Act.put, List.setIfInBounds_toArray, List.set_cons_succ, List.set_cons_zero])
      | ((with_reducible refine at_loadg 10 ?_); refine tyKc.wpList_load (by rfl) (.tmp 10) rfl (w.heap.size) (0) rfl (a.1) (RowC.ki_key (RowC.of_blk K0.out)) ?_)
      | ((with_reducible refine at_loadg 12 ?_); refine tyKc.wpList_load (by rfl) (.tmp 12) rfl (w.heap.size + 1) (0) rfl (b.1) (RowC.ki_key (RowC.of_blk K1.out)) ?_)
      | (go_at_call 42; refine (HC.out _).mono ?_; rintro e w1 ⟨rfl, b1⟩; have B1 := Lib.hid (B0.out.trans (b1.mono B0.out.size)); clear b1))
    go_ret
    exact ⟨by rw [← HR.out]; rfl, B1.out⟩
theorem pLess_c : LessOk := fun a b w => pLess_r a b w
set_option maxRecDepth 20000 in
set_option maxHeartbeats 1000000 in
theorem pRipe_r (c : CoinV) (h : IntV .u32) (w : World) :
    Calls Try.prog 21 #[.agg (encC c).toArray, .int .u32 h.1] w fun e w' => e = .returned (.bool (ripeF c h)) ∧ Below w.heap.size w w' := by
  obtain ⟨r, hr⟩ : ∃ r, ripeF c h = r := ⟨_, rfl⟩
  rw [hr]
  unfold ripeF at hr
  have hc := u32_le c.h
  have hh := u32_le h
  have cb : (w.alloc (.cells (encC c).toArray 49)).cell? ⟨w.heap.size, 67, none⟩ = some (.bool c.b) := by
    have := RowC.co_b (RowC.of_blk (Blk.new w 49 (encC c).toArray))
    simpa using this
  have ch : (w.alloc (.cells (encC c).toArray 49)).cell? ⟨w.heap.size, 66, none⟩ = some (.int .u32 c.h.1) := by
    have := RowC.co_h (RowC.of_blk (Blk.new w 49 (encC c).toArray))
    simpa using this
  have B0 := Lib.hid (show Below w.heap.size w (w.alloc (.cells (encC c).toArray 49)) from (Below.refl _ _).alloc (Nat.le_refl _) _)
  obtain ⟨b, hb⟩ : ∃ b, c.b = b := ⟨_, rfl⟩
  obtain ⟨z, hz⟩ : ∃ z, c.h.1 = z := ⟨_, rfl⟩
  obtain ⟨y, hy⟩ : ∃ y, h.1 = y := ⟨_, rfl⟩
  rw [hb, hz, hy] at hr
  rw [hb] at cb
  rw [hz] at ch hc
  rw [hy] at hh ⊢
  have h1 : IntKind.u64.wrap z = z := by rw [IntKind.wrap_u64]; omega
  have h2 : IntKind.u64.wrap y = y := by rw [IntKind.wrap_u64]; omega
  have h3 : IntKind.u64.wrap (z + 3) = z + 3 := by rw [IntKind.wrap_u64]; omega
  have HR := Lib.hid hr
  clear hr hb hz hy
  cases b with
  | false =>
    go_enter Try.func21, Try.ntmps21
    go_wp2_with fail
    go_ret
    exact ⟨by rw [← HR.out]; rfl, B0.out⟩
  | true =>
    obtain ⟨q, hq⟩ : ∃ q, decide (z + 3 ≤ y) = q := ⟨_, rfl⟩
    have HQ := Lib.hid hq
    go_enter Try.func21, Try.ntmps21
    go_wp2_with fail
    go_ret
    exact ⟨by rw [← HR.out, HQ.out]; rfl, B0.out⟩
theorem pRipe_c : RipeOk := fun c h w => pRipe_r c h w
theorem entersF1 : ∀ args w, (callFunc 41 args).run Try.prog w = .ok (.enter 41 args) w := enters_of Try.func41 (by kernel_rfl) rfl
theorem entersA1 : ∀ args w, (callFunc 25 args).run Try.prog w = .ok (.enter 25 args) w := enters_of Try.func25 (by kernel_rfl) rfl
theorem entersU1 : ∀ args w, (callFunc 36 args).run Try.prog w = .ok (.enter 36 args) w := enters_of Try.func36 (by kernel_rfl) rfl
theorem entersP1 : ∀ args w, (callFunc 47 args).run Try.prog w = .ok (.enter 47 args) w := enters_of Try.func47 (by kernel_rfl) rfl
theorem entersT1 : ∀ args w, (callFunc 45 args).run Try.prog w = .ok (.enter 45 args) w := enters_of Try.func45 (by kernel_rfl) rfl
set_option maxRecDepth 20000 in
set_option maxHeartbeats 1000000 in
theorem find1_any (g : Nat) (p : PtV) (x : CoinV) (W : World) (hp : Blk W g 32 (encKI .u32 p).toArray) :
    Calls Try.prog 41 (#[.agg (encC x).toArray] ++ #[.pointer (some ⟨g, 0, none⟩)]) W fun e w' => e = .returned (.bool (decide (x.at_ = p))) ∧ Below W.heap.size W w' := by
  obtain ⟨q, hq⟩ : ∃ q, decide (x.at_ = p) = q := ⟨_, rfl⟩
  rw [hq]
  have HQ := Lib.hid hq
  have B0 := Lib.hid (show Below W.heap.size W (W.alloc (.cells (encC x).toArray 49)) from (Below.refl _ _).alloc (Nat.le_refl _) _)
  have K0 := Lib.hid (show RowC (W.alloc (.cells (encC x).toArray 49)) W.heap.size 0 (encC x) from RowC.of_blk (Blk.new W 49 (encC x).toArray))
  have K1 := Lib.hid (show RowC (W.alloc (.cells (encC x).toArray 49)) g 0 (encKI .u32 p) from RowC.of_blk (hp.alloc _))
  clear hq hp
  go_enter Try.func41, Try.ntmps41
  go_wp2_with (first
    | ((with_reducible refine at_loadg 4 ?_); refine tyPc.wpList_load (by rfl) (.tmp 4) rfl (W.heap.size) (0) rfl (x.at_) (RowC.co_at K0.out) ?_)
    | ((with_reducible refine at_loadg 1 ?_); refine tyPc.wpList_load (by rfl) (.tmp 1) rfl (g) (0) rfl (p) (K1.out) ?_)
    | ((with_reducible refine at_eqlg 5 6 ?_); refine wpList_eql_rowg (by rfl) 32 32 (.tmp 5) (.tmp 6) rfl (encKI .u32 x.at_).toArray (encKI .u32 p).toArray rfl rfl (by kernel_rfl) q (fun V => (eqPt_run _ _ V).trans (by rw [HQ.out])) ?_; simp only [Act.put, List.setIfInBounds_toArray, List.set_cons_succ, List.set_cons_zero]))
  go_ret
  exact ⟨rfl, B0.out⟩
set_option maxRecDepth 20000 in
set_option maxHeartbeats 1000000 in
theorem apply1_any (g : Nat) (h : IntV .u32) (x : CoinV) (W : World) (hp : W.cell? ⟨g, 0, none⟩ = some (.int .u32 h.1)) (hg : g < W.heap.size) :
    Calls Try.prog 25 (#[.agg (encC x).toArray] ++ #[.pointer (some ⟨g, 0, none⟩)]) W fun e w' => e = .returned (.bool (ripeF x h)) ∧ Below W.heap.size W w' := by
  obtain ⟨q, hq⟩ : ∃ q, ripeF x h = q := ⟨_, rfl⟩
  have HC := Lib.hid (fun V => hq ▸ pRipe_r x h V)
  rw [hq]
  have B0 := Lib.hid (show Below W.heap.size W (W.alloc (.cells (encC x).toArray 49)) from (Below.refl _ _).alloc (Nat.le_refl _) _)
  have K0 := Lib.hid (show RowC (W.alloc (.cells (encC x).toArray 49)) W.heap.size 0 (encC x) from RowC.of_blk (Blk.new W 49 (encC x).toArray))
  have c0 : (W.alloc (.cells (encC x).toArray 49)).cell? ⟨g, 0, none⟩ = some (.int .u32 h.1) := (World.cell?_alloc_lt W _ _ hg).trans hp
  clear hq hp
  go_enter Try.func25, Try.ntmps25
  go_wp2_with (first
    | ((with_reducible refine at_loadg 2 ?_); refine tyCoc.wpList_load (by rfl) (.tmp 2) rfl (W.heap.size) (0) rfl (x) (K0.out) ?_)
    | (go_at_call 21; refine (HC.out _).mono ?_; rintro e w1 ⟨rfl, b1⟩; have B1 := Lib.hid (B0.out.trans (b1.mono B0.out.size)); clear b1))
  go_ret
  exact ⟨rfl, B1.out⟩
theorem undo1_any (x : CoinV) (W : World) :
    Calls Try.prog 36 (#[.agg (encC x).toArray] ++ #[]) W fun e w' => e = .returned (.bool true) ∧ Below W.heap.size W w' := by
  have B0 := Lib.hid (show Below W.heap.size W (W.alloc (.cells (encC x).toArray 49)) from (Below.refl _ _).alloc (Nat.le_refl _) _)
  go_enter Try.func36, Try.ntmps36
  go_wp2_with fail
  go_ret
  exact ⟨rfl, B0.out⟩
set_option maxRecDepth 20000 in
set_option maxHeartbeats 1000000 in
theorem put1_any (g : Nat) (c : CoinV) (x : CoinV) (W : World) (hp : Blk W g 49 (encC c).toArray) :
    Calls Try.prog 47 (#[.agg (encC x).toArray] ++ #[.pointer (some ⟨g, 0, none⟩)]) W fun e w' => e = .returned (.bool (ltP c.at_ x.at_)) ∧ Below W.heap.size W w' := by
  obtain ⟨q, hq⟩ : ∃ q, ltP c.at_ x.at_ = q := ⟨_, rfl⟩
  have HC := Lib.hid (fun V => hq ▸ pLess_r c.at_ x.at_ V)
  rw [hq]
  have B0 := Lib.hid (show Below W.heap.size W (W.alloc (.cells (encC x).toArray 49)) from (Below.refl _ _).alloc (Nat.le_refl _) _)
  have K0 := Lib.hid (show RowC (W.alloc (.cells (encC x).toArray 49)) W.heap.size 0 (encC x) from RowC.of_blk (Blk.new W 49 (encC x).toArray))
  have K1 := Lib.hid (show RowC (W.alloc (.cells (encC x).toArray 49)) g 0 (encC c) from RowC.of_blk (hp.alloc _))
  clear hq hp
  go_enter Try.func47, Try.ntmps47
  go_wp2_with (first
    | ((with_reducible refine at_loadg 4 ?_); refine tyPc.wpList_load (by rfl) (.tmp 4) rfl (g) (0) rfl (c.at_) (RowC.co_at K1.out) ?_)
    | ((with_reducible refine at_loadg 6 ?_); refine tyPc.wpList_load (by rfl) (.tmp 6) rfl (W.heap.size) (0) rfl (x.at_) (RowC.co_at K0.out) ?_)
    | (go_at_call 19; refine (HC.out _).mono ?_; rintro e w1 ⟨rfl, b1⟩; have B1 := Lib.hid (B0.out.trans (b1.mono B0.out.size)); clear b1))
  go_ret
  exact ⟨rfl, B1.out⟩
set_option maxRecDepth 20000 in
set_option maxHeartbeats 1000000 in
theorem take1_not (gp gs : Nat) (p : PtV) (x : CoinV) (W : World) (hp : Blk W gp 32 (encKI .u32 p).toArray) (hq : x.at_ ≠ p) :
    Calls Try.prog 45 (#[.agg (encC x).toArray] ++ #[.pointer (some ⟨gp, 0, none⟩), .pointer (some ⟨gs, 0, none⟩)]) W fun e w' => e = .returned (.bool false) ∧ Below W.heap.size W w' := by
  have HQ := Lib.hid (decide_eq_false hq)
  have B0 := Lib.hid (show Below W.heap.size W (W.alloc (.cells (encC x).toArray 49)) from (Below.refl _ _).alloc (Nat.le_refl _) _)
  have K0 := Lib.hid (show RowC (W.alloc (.cells (encC x).toArray 49)) W.heap.size 0 (encC x) from RowC.of_blk (Blk.new W 49 (encC x).toArray))
  have K1 := Lib.hid (show RowC (W.alloc (.cells (encC x).toArray 49)) gp 0 (encKI .u32 p) from RowC.of_blk (hp.alloc _))
  have HL := Lib.hid (show gp < (W.alloc (.cells (encC x).toArray 49)).heap.size ∧ W.heap.size < (W.alloc (.cells (encC x).toArray 49)).heap.size from ⟨(hp.alloc _).lt, by simp⟩)
  clear hp hq
  go_enter Try.func45, Try.ntmps45
  go_wp2_with fail
  refine wp_region_from (by kernel_rfl) (by kernel_rfl) ?_
  repeat (first
    | go_big_quiet_skip
    | ((with_reducible refine at_qload 5 ?_); refine tyPc.wpQuiet_load (by rfl) (.tmp 5) rfl (W.heap.size) (0) rfl (x.at_) (fun V hC => RowC.co_at (K0.out.below hC.below HL.out.2)) ?_; simp only [Act.put, List.setIfInBounds_toArray, List.set_cons_succ, List.set_cons_zero])
    | ((with_reducible refine at_qload 1 ?_); refine tyPc.wpQuiet_load (by rfl) (.tmp 1) rfl (gp) (0) rfl (p) (fun V hC => K1.out.below hC.below HL.out.1) ?_; simp only [Act.put, List.setIfInBounds_toArray, List.set_cons_succ, List.set_cons_zero])
    | ((with_reducible refine at_qeql 6 7 ?_); refine wpQuiet_eql_row (by rfl) 32 32 (.tmp 6) (.tmp 7) rfl (encKI .u32 x.at_).toArray (encKI .u32 p).toArray rfl rfl (by kernel_rfl) false (fun V => (eqPt_run _ _ V).trans (by rw [HQ.out])) ?_; simp only [Act.put, List.setIfInBounds_toArray, List.set_cons_succ, List.set_cons_zero])
    | ((with_reducible refine at_qload 3 ?_); refine tyCoc.wpQuiet_load (by rfl) (.tmp 3) rfl (W.heap.size) (0) rfl (x) (fun V hC => K0.out.below hC.below HL.out.2) ?_; simp only [Act.put, List.setIfInBounds_toArray, List.set_cons_succ, List.set_cons_zero])
    | (go_big_quiet_want; go_big_quiet_op; refine ⟨_, fun V hC => by with_reducible rfl, ?_⟩; go_big_quiet_on)
    | go_big_quiet_step (fail))
  refine wpQuiet_nil ?_
  intro w9 hC
  go_wp2_with fail
  go_ret
  exact ⟨rfl, B0.out.trans (hC.below.mono B0.out.size)⟩
set_option maxRecDepth 20000 in
set_option maxHeartbeats 1000000 in
theorem take1_hit (gp gs g : Nat) (p : PtV) (x : CoinV) (W : World) (v1 v2 : Value) (gf : Nat) (cb : Array Value) (r : CoinV → Bool) (hp : Blk W gp 32 (encKI .u32 p).toArray) (hs : Blk W gs 70 #[.pointer (some ⟨g, 0, none⟩)]) (hg : Blk W g 79 #[v1, v2, .func (.func gf) #[] cb]) (hq : x.at_ = p)
    (eg : ∀ args w, (callFunc gf args).run Try.prog w = .ok (.enter gf args) w) (hm : ∀ c V, Below W.heap.size W V → Calls Try.prog gf (#[.agg (encC c).toArray] ++ cb) V fun e w' => e = .returned (.bool (r c)) ∧ Below V.heap.size V w') :
    Calls Try.prog 45 (#[.agg (encC x).toArray] ++ #[.pointer (some ⟨gp, 0, none⟩), .pointer (some ⟨gs, 0, none⟩)]) W fun e w' => e = .returned (.bool (r x)) ∧ Below W.heap.size W w' := by
  have HQ := Lib.hid (decide_eq_true hq)
  obtain ⟨q, hr⟩ : ∃ q, r x = q := ⟨_, rfl⟩
  have B0 := Lib.hid (show Below W.heap.size W (W.alloc (.cells (encC x).toArray 49)) from (Below.refl _ _).alloc (Nat.le_refl _) _)
  have K0 := Lib.hid (show RowC (W.alloc (.cells (encC x).toArray 49)) W.heap.size 0 (encC x) from RowC.of_blk (Blk.new W 49 (encC x).toArray))
  have K1 := Lib.hid (show RowC (W.alloc (.cells (encC x).toArray 49)) gp 0 (encKI .u32 p) from RowC.of_blk (hp.alloc _))
  have HL := Lib.hid (show gp < (W.alloc (.cells (encC x).toArray 49)).heap.size ∧ W.heap.size < (W.alloc (.cells (encC x).toArray 49)).heap.size from ⟨(hp.alloc _).lt, by simp⟩)
  have HM := Lib.hid (fun V hV => hr ▸ hm x V hV)
  have C1 := Lib.hid (show ∀ V, Below (W.alloc (.cells (encC x).toArray 49)).heap.size (W.alloc (.cells (encC x).toArray 49)) V → V.cell? ⟨gs, 0, none⟩ = some (.pointer (some ⟨g, 0, none⟩)) from fun V hV => (below_blk hV (hs.alloc _) (hs.alloc _).lt).cell 0)
  have C2 := Lib.hid (show ∀ V, Below (W.alloc (.cells (encC x).toArray 49)).heap.size (W.alloc (.cells (encC x).toArray 49)) V → V.cell? ⟨g, 2, none⟩ = some (.func (.func gf) #[] cb) from fun V hV => (below_blk hV (hg.alloc _) (hg.alloc _).lt).cell 2)
  rw [hr]
  clear hp hq hs hg hm hr
  go_enter Try.func45, Try.ntmps45
  go_wp2_with fail
  refine wp_region_from (by kernel_rfl) (by kernel_rfl) ?_
  repeat (first
    | ((with_reducible refine at_qload 5 ?_); refine tyPc.wpQuiet_load (by rfl) (.tmp 5) rfl (W.heap.size) (0) rfl (x.at_) (fun V hC => RowC.co_at (K0.out.below hC.below HL.out.2)) ?_; simp only [Act.put, List.setIfInBounds_toArray, List.set_cons_succ, List.set_cons_zero])
    | ((with_reducible refine at_qload 1 ?_); refine tyPc.wpQuiet_load (by rfl) (.tmp 1) rfl (gp) (0) rfl (p) (fun V hC => K1.out.below hC.below HL.out.1) ?_; simp only [Act.put, List.setIfInBounds_toArray, List.set_cons_succ, List.set_cons_zero])
    | ((with_reducible refine at_qeql 6 7 ?_); refine wpQuiet_eql_row (by rfl) 32 32 (.tmp 6) (.tmp 7) rfl (encKI .u32 x.at_).toArray (encKI .u32 p).toArray rfl rfl (by kernel_rfl) true (fun V => (eqPt_run _ _ V).trans (by rw [HQ.out])) ?_; simp only [Act.put, List.setIfInBounds_toArray, List.set_cons_succ, List.set_cons_zero])
    | ((with_reducible refine at_qload 2 ?_); refine wpQuiet_load_one (by rfl) 70 (.tmp 2) rfl ⟨gs, 0, none⟩ rfl (.pointer (some ⟨g, 0, none⟩)) Try.isAgg70 (fun V hC => C1.out V hC.below) ?_; simp only [Act.put, List.setIfInBounds_toArray, List.set_cons_succ, List.set_cons_zero])
    | ((with_reducible refine at_qload 12 ?_); refine wpQuiet_load_one (by rfl) 72 (.tmp 12) rfl ⟨g, 2, none⟩ rfl (.func (.func gf) #[] cb) Try.isAgg72 (fun V hC => C2.out V hC.below) ?_; simp only [Act.put, List.setIfInBounds_toArray, List.set_cons_succ, List.set_cons_zero])
    | ((with_reducible refine at_qload 3 ?_); refine tyCoc.wpQuiet_load (by rfl) (.tmp 3) rfl (W.heap.size) (0) rfl (x) (fun V hC => K0.out.below hC.below HL.out.2) ?_; simp only [Act.put, List.setIfInBounds_toArray, List.set_cons_succ, List.set_cons_zero])
    | (go_big_quiet_want; go_big_quiet_op; refine ⟨_, fun _ _ => by with_reducible rfl, ?_⟩; go_big_quiet_on)
    | go_big_quiet_step ((intro hC; go_at_fn gf; with_reducible exact (HM.out _ (B0.out.trans (hC.below.mono B0.out.size))).mono fun _ _ h => ⟨h.1, hC.call h.2⟩)))
  refine wpQuiet_nil ?_
  intro w9 hC
  go_wp2_with fail
  go_ret
  exact ⟨rfl, B0.out.trans (hC.below.mono B0.out.size)⟩
end Go.Proofs.Ytkjgmhamglhggaa
