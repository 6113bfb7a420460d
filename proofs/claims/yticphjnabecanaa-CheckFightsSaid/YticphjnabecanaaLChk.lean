/- The walks of layer 11's laws; the law's heavy and shown. Written by genLCh.py. -/
import Derived.Test.YticphjnabecanaaChkC
namespace Go.Proofs.Yticphjnabecanaa
open Go.RowKit
section
theorem chheavy_any (a : TxA) (w : World) :
    Calls Try.prog 9 #[.agg a.cells.toArray] w fun e w' => e = .returned (.bool (heavyF a.T)) ∧ Below w.heap.size w w' := by
  have hb : RowC (w.alloc (.cells a.cells.toArray 29)) w.heap.size 0 a.cells := RowC.of_blk (Blk.new _ _ _)
  have c1 := TxA.c1 hb
  have c2 := TxA.c2 hb
  have c4 := TxA.c4 hb
  have c5 := TxA.c5 hb
  clear hb
  have hx : ∀ b : Bool, (b = true ↔ (60 < (a.T.ins.length : Int) ∨ 60 < (a.T.outs.length : Int) ∨ 60 < (a.T.nulls.length : Int) ∨ 60 < (a.T.notes.length : Int))) → Ending.returned (Value.bool b) = .returned (.bool (heavyF a.T)) := fun b hb => by
    congr 2
    rw [Bool.eq_iff_iff, hb]
    unfold heavyF
    simp only [decide_eq_true_iff]
    omega
  have HX := Lib.hid hx
  clear hx
  go_enter Try.func9, Try.ntmps9
  go_wp2
  all_goals
    go_ret
    refine ⟨HX.out _ ?_, (Below.refl _ _).alloc (Nat.le_refl _) _⟩
    simp
    omega
end
theorem ch_few {T : TxV} (h : heavyF T = false) : T.ins.length ≤ 60 ∧ T.outs.length ≤ 60 ∧ T.nulls.length ≤ 60 ∧ T.notes.length ≤ 60 := by
  unfold heavyF at h
  have := of_decide_eq_false h
  omega
theorem ch_some {T : TxV} (h : heavyF T = false) : Some120 T := by
  have := ch_few h
  exact ⟨by omega, by omega, by omega, by omega⟩
theorem wf_i32 (z : IntV .i32) : -2147483648 ≤ z.1 ∧ z.1 ≤ 2147483647 := by
  have := z.2
  simp [Lit.wf, IntKind.min, IntKind.max, IntKind.signed, IntKind.bits] at this
  omega
def chTxZ : TxA := ⟨txZero, none, 0, none, 0, none, 0, none, 0⟩
theorem ch_shown : checkF txZero false = 110 := checkF_none (by decide +kernel) (by decide +kernel)
set_option maxRecDepth 20000 in
set_option maxHeartbeats 1000000 in
theorem chshown_any (HCK : ChkTOk) (HPO : PointsOk) (w : World) :
    Calls Try.prog 10 #[] w fun e w' => e = .returned (.bool true) ∧ Below w.heap.size w w' := by
  have HC := Lib.hid (fun W => HCK chTxZ false W (txZero_in _) ⟨by decide, by decide, by decide, by decide⟩)
  have HP := Lib.hid (fun W => HPO none 0 [] W (RowIn.nil (Nat.zero_le _)) (by decide))
  clear HCK HPO
  go_enter Try.func10, Try.ntmps10
  go_wp2_with ((with_reducible refine at_build 1 ?_); refine wpList_built rfl 29 #[] rfl chTxZ.cells.toArray (by kernel_rfl) ?_)
  refine (HC.out _).mono ?_
  rintro e w1 ⟨rfl, b1⟩
  rw [show checkF chTxZ.T false = 110 from ch_shown]
  have B1 := Lib.hid b1
  clear b1
  go_wp2_with fail
  refine (HP.out _).mono ?_
  rintro e w2 ⟨rfl, b2⟩
  rw [show decide (([] : List PtC).Nodup) = true from rfl]
  have B2 := Lib.hid (B1.out.trans (b2.mono B1.out.size))
  clear b2 B1
  go_wp2_with fail
  go_ret
  exact ⟨rfl, B2.out⟩
set_option maxRecDepth 20000 in
set_option maxHeartbeats 4000000 in
theorem chFights_h1 (HCK : ChkTOk) (_ : FightOk) (HPO : PointsOk) (_ : ValuesOk) (a b : TxA) (w : World) (ha : a.In w w.heap.size) (hb : b.In w w.heap.size) (hv : heavyF a.T = true) :
    Calls Try.prog 4 #[.agg a.cells.toArray, .agg b.cells.toArray] w fun e w' => e = .returned (.bool true) ∧ Below w.heap.size w w' := by
  have SH := Lib.hid (fun W => chshown_any HCK HPO W)
  have IA := Lib.hid ha
  have IB := Lib.hid hb
  have HH := Lib.hid (show Holds w [(w.heap.size + 1, 29, b.cells.toArray), (w.heap.size, 29, a.cells.toArray)] ((w.alloc (.cells a.cells.toArray 29)).alloc (.cells b.cells.toArray 29)) from by
    have := ((Holds.nil w).box 29 a.cells.toArray).box 29 b.cells.toArray
    simpa only [World.size_alloc] using this)
  clear ha hb IA IB
  go_enter Try.func4, Try.ntmps4
  go_wp2_with ((with_reducible refine at_load 2 ?_); refine tyTx.wpList_load rfl (.tmp 2) rfl (w.heap.size) 0 rfl a (RowC.of_blk (HH.out.at (x := (w.heap.size, 29, a.cells.toArray)) (by simp))) ?_)
  with_reducible refine (chheavy_any a _).mono ?_
  rintro e w1 ⟨rfl, bq⟩
  have HQ := Lib.hid (HH.out.call bq)
  clear bq HH
  have HH := HQ
  clear HQ
  rw [hv]
  go_wp2_with fail
  with_reducible refine (SH.out _).mono ?_
  rintro e w2 ⟨rfl, bq⟩
  have HQ := Lib.hid (HH.out.call bq)
  clear bq HH
  have HH := HQ
  clear HQ
  go_wp2_with fail
  go_ret
  exact ⟨rfl, HH.out.below⟩
set_option maxRecDepth 20000 in
set_option maxHeartbeats 4000000 in
theorem chFights_h2 (HCK : ChkTOk) (_ : FightOk) (HPO : PointsOk) (_ : ValuesOk) (a b : TxA) (w : World) (ha : a.In w w.heap.size) (hb : b.In w w.heap.size) (hv : heavyF a.T = false) (hu : heavyF b.T = true) :
    Calls Try.prog 4 #[.agg a.cells.toArray, .agg b.cells.toArray] w fun e w' => e = .returned (.bool true) ∧ Below w.heap.size w w' := by
  have SH := Lib.hid (fun W => chshown_any HCK HPO W)
  have IA := Lib.hid ha
  have IB := Lib.hid hb
  have HH := Lib.hid (show Holds w [(w.heap.size + 1, 29, b.cells.toArray), (w.heap.size, 29, a.cells.toArray)] ((w.alloc (.cells a.cells.toArray 29)).alloc (.cells b.cells.toArray 29)) from by
    have := ((Holds.nil w).box 29 a.cells.toArray).box 29 b.cells.toArray
    simpa only [World.size_alloc] using this)
  clear ha hb IA IB
  go_enter Try.func4, Try.ntmps4
  go_wp2_with ((with_reducible refine at_load 2 ?_); refine tyTx.wpList_load rfl (.tmp 2) rfl (w.heap.size) 0 rfl a (RowC.of_blk (HH.out.at (x := (w.heap.size, 29, a.cells.toArray)) (by simp))) ?_)
  with_reducible refine (chheavy_any a _).mono ?_
  rintro e w1 ⟨rfl, bq⟩
  have HQ := Lib.hid (HH.out.call bq)
  clear bq HH
  have HH := HQ
  clear HQ
  rw [hv]
  go_wp2_with ((with_reducible refine at_loadg 3 ?_); refine tyTx.wpList_load (by rfl) (.tmp 3) rfl (w.heap.size + 1) 0 rfl b (RowC.of_blk (HH.out.at (x := (w.heap.size + 1, 29, b.cells.toArray)) (by simp))) ?_)
  with_reducible refine (chheavy_any b _).mono ?_
  rintro e w2 ⟨rfl, bq⟩
  have HQ := Lib.hid (HH.out.call bq)
  clear bq HH
  have HH := HQ
  clear HQ
  rw [hu]
  go_wp2_with fail
  with_reducible refine (SH.out _).mono ?_
  rintro e w3 ⟨rfl, bq⟩
  have HQ := Lib.hid (HH.out.call bq)
  clear bq HH
  have HH := HQ
  clear HQ
  go_wp2_with fail
  go_ret
  exact ⟨rfl, HH.out.below⟩
set_option maxRecDepth 20000 in
set_option maxHeartbeats 4000000 in
theorem chFights_m (HCK : ChkTOk) (HFI : FightOk) (HPO : PointsOk) (_ : ValuesOk) (a b : TxA) (w : World) (ha : a.In w w.heap.size) (hb : b.In w w.heap.size) (hv : heavyF a.T = false) (hu : heavyF b.T = false) :
    Calls Try.prog 4 #[.agg a.cells.toArray, .agg b.cells.toArray] w fun e w' => e = .returned (.bool true) ∧ Below w.heap.size w w' := by
  have SH := Lib.hid (fun W => chshown_any HCK HPO W)
  have IA := Lib.hid ha
  have IB := Lib.hid hb
  have HH := Lib.hid (show Holds w [(w.heap.size + 1, 29, b.cells.toArray), (w.heap.size, 29, a.cells.toArray)] ((w.alloc (.cells a.cells.toArray 29)).alloc (.cells b.cells.toArray 29)) from by
    have := ((Holds.nil w).box 29 a.cells.toArray).box 29 b.cells.toArray
    simpa only [World.size_alloc] using this)
  have NA := Lib.hid (ch_some hv)
  have NB := Lib.hid (ch_some hu)
  clear ha hb
  obtain ⟨f, hf⟩ : ∃ f, fightF a.T b.T = f := ⟨_, rfl⟩
  have hf2 : fightF b.T a.T = f := by rw [← hf]; exact fight_symm _ _
  obtain ⟨c, hc⟩ : ∃ c, checkF a.T false = c := ⟨_, rfl⟩
  obtain ⟨y, hy⟩ : ∃ y, decide ((0 : Int) < (a.T.ins.length : Int) + (a.T.nulls.length : Int)) = y := ⟨_, rfl⟩
  have hfs : fightF a.T a.T = y := by rw [fight_self, ← hy, Bool.eq_iff_iff, decide_eq_true_iff, decide_eq_true_iff]; omega
  have hw1 : IntKind.i64.wrap ((a.T.ins.length : Int) + (a.T.nulls.length : Int)) = (a.T.ins.length : Int) + (a.T.nulls.length : Int) := by have := ch_few hv; rw [IntKind.wrap_i64]; omega
  have HC0 := Lib.hid (show c = 0 → y = true from fun h => by
    rw [← hy, decide_eq_true_iff]
    have := check_spends (hc.trans h)
    omega)
  have XF1 := Lib.hid (And.intro hf hf2)
  have XF2 := Lib.hid (And.intro hc hfs)
  clear hf hf2 hc hfs
  go_enter Try.func4, Try.ntmps4
  go_wp2_with ((with_reducible refine at_load 2 ?_); refine tyTx.wpList_load rfl (.tmp 2) rfl (w.heap.size) 0 rfl a (RowC.of_blk (HH.out.at (x := (w.heap.size, 29, a.cells.toArray)) (by simp))) ?_)
  with_reducible refine (chheavy_any a _).mono ?_
  rintro e w1 ⟨rfl, bq⟩
  have HQ := Lib.hid (HH.out.call bq)
  clear bq HH
  have HH := HQ
  clear HQ
  rw [hv]
  go_wp2_with ((with_reducible refine at_loadg 3 ?_); refine tyTx.wpList_load (by rfl) (.tmp 3) rfl (w.heap.size + 1) 0 rfl b (RowC.of_blk (HH.out.at (x := (w.heap.size + 1, 29, b.cells.toArray)) (by simp))) ?_)
  with_reducible refine (chheavy_any b _).mono ?_
  rintro e w2 ⟨rfl, bq⟩
  have HQ := Lib.hid (HH.out.call bq)
  clear bq HH
  have HH := HQ
  clear HQ
  rw [hu]
  go_wp2_with fail
  with_reducible refine (SH.out _).mono ?_
  rintro e w3 ⟨rfl, bq⟩
  have HQ := Lib.hid (HH.out.call bq)
  clear bq HH
  have HH := HQ
  clear HQ
  have QA := Lib.hid (show ∀ W, From w3 W → RowC W w.heap.size 0 a.cells from fun W hC => RowC.of_blk (below_blk hC.below (HH.out.at (x := (w.heap.size, 29, a.cells.toArray)) (by simp)) (HH.out.at (x := (w.heap.size, 29, a.cells.toArray)) (by simp)).lt))
  have F1 := Lib.hid (show ∀ W, From w3 W → Calls Try.prog 15 #[.agg a.cells.toArray, .agg b.cells.toArray] W fun e w' => e = .returned (.bool f) ∧ Below W.heap.size W w' from fun W hC => XF1.out.1 ▸ HFI a b W (IA.out.on (HH.out.below.trans (hC.below.mono HH.out.below.size)) (Nat.le_refl _)) (IB.out.on (HH.out.below.trans (hC.below.mono HH.out.below.size)) (Nat.le_refl _)) NA.out NB.out)
  have F2 := Lib.hid (show ∀ W, From w3 W → Calls Try.prog 15 #[.agg b.cells.toArray, .agg a.cells.toArray] W fun e w' => e = .returned (.bool f) ∧ Below W.heap.size W w' from fun W hC => XF1.out.2 ▸ HFI b a W (IB.out.on (HH.out.below.trans (hC.below.mono HH.out.below.size)) (Nat.le_refl _)) (IA.out.on (HH.out.below.trans (hC.below.mono HH.out.below.size)) (Nat.le_refl _)) NB.out NA.out)
  have F3 := Lib.hid (show ∀ W, From w3 W → Calls Try.prog 15 #[.agg a.cells.toArray, .agg a.cells.toArray] W fun e w' => e = .returned (.bool y) ∧ Below W.heap.size W w' from fun W hC => XF2.out.2 ▸ HFI a a W (IA.out.on (HH.out.below.trans (hC.below.mono HH.out.below.size)) (Nat.le_refl _)) (IA.out.on (HH.out.below.trans (hC.below.mono HH.out.below.size)) (Nat.le_refl _)) NA.out NA.out)
  have C1 := Lib.hid (show ∀ W, From w3 W → Calls Try.prog 13 #[.agg a.cells.toArray, .bool false] W fun e w' => e = .returned (.int .i64 c) ∧ Below W.heap.size W w' from fun W hC => XF2.out.1 ▸ HCK a false W (IA.out.on (HH.out.below.trans (hC.below.mono HH.out.below.size)) (Nat.le_refl _)) NA.out)
  have QB := Lib.hid (show ∀ W, From w3 W → RowC W (w.heap.size + 1) 0 b.cells from fun W hC => RowC.of_blk (below_blk hC.below (HH.out.at (x := (w.heap.size + 1, 29, b.cells.toArray)) (by simp)) (HH.out.at (x := (w.heap.size + 1, 29, b.cells.toArray)) (by simp)).lt))
  have S1 := Lib.hid (fun W (h : From w3 W) => TxA.c1 (QA.out W h))
  have S4 := Lib.hid (fun W (h : From w3 W) => TxA.c4 (QA.out W h))
  clear HCK HFI HPO
  go_wp2_with fail
  by_cases h0 : c = 0
  · have hy1 := HC0.out h0
    subst h0
    subst hy1
    refine wp_region_from (by kernel_rfl) (by kernel_rfl) ?_
    repeat (first
      | go_big_quiet_skip
      | ((with_reducible refine at_qload 2 ?_); refine tyTx.wpQuiet_load (by rfl) (.tmp 2) rfl (w.heap.size) 0 rfl a (QA.out) ?_; simp only [Act.put, List.setIfInBounds_toArray, List.set_cons_succ, List.set_cons_zero])
      | ((with_reducible refine at_qload 3 ?_); refine tyTx.wpQuiet_load (by rfl) (.tmp 3) rfl (w.heap.size + 1) 0 rfl b (QB.out) ?_; simp only [Act.put, List.setIfInBounds_toArray, List.set_cons_succ, List.set_cons_zero])
      | ((with_reducible refine at_qload 27 ?_); refine wpQuiet_load_one (by rfl) 23 (.tmp 27) rfl ⟨w.heap.size, 1, none⟩ rfl (.slice a.Ai a.T.ins.length a.ci) Try.isAgg23 (S1.out) ?_; simp only [Act.put, List.setIfInBounds_toArray, List.set_cons_succ, List.set_cons_zero])
      | ((with_reducible refine at_qload 30 ?_); refine wpQuiet_load_one (by rfl) 27 (.tmp 30) rfl ⟨w.heap.size, 35, none⟩ rfl (.slice a.An a.T.nulls.length a.cn) Try.isAgg27 (S4.out) ?_; simp only [Act.put, List.setIfInBounds_toArray, List.set_cons_succ, List.set_cons_zero])
      | (go_big_quiet_want; go_big_quiet_op; refine ⟨_, fun _ _ => by with_reducible rfl, ?_⟩; go_big_quiet_on)
      | go_big_quiet_step ((intro hC; first
          | (go_at_call 15; with_reducible exact (F1.out _ hC).mono fun _ _ h => ⟨h.1, hC.call h.2⟩)
          | (go_at_call 15; with_reducible exact (F2.out _ hC).mono fun _ _ h => ⟨h.1, hC.call h.2⟩)
          | (go_at_call 15; with_reducible exact (F3.out _ hC).mono fun _ _ h => ⟨h.1, hC.call h.2⟩)
          | (go_at_call 13; with_reducible exact (C1.out _ hC).mono fun _ _ h => ⟨h.1, hC.call h.2⟩))))
    refine wpQuiet_nil ?_
    intro w9 hC
    have B9 := Lib.hid (HH.out.below.trans (hC.below.mono HH.out.below.size))
    clear hC
    go_wp2_with fail
    go_ret
    exact ⟨by first | rfl | simp, B9.out⟩
  · have hne : (c != 0) = true := by simpa using h0
    refine wp_region_from (by kernel_rfl) (by kernel_rfl) ?_
    repeat (first
      | go_big_quiet_skip
      | ((with_reducible refine at_qload 2 ?_); refine tyTx.wpQuiet_load (by rfl) (.tmp 2) rfl (w.heap.size) 0 rfl a (QA.out) ?_; simp only [Act.put, List.setIfInBounds_toArray, List.set_cons_succ, List.set_cons_zero])
      | ((with_reducible refine at_qload 3 ?_); refine tyTx.wpQuiet_load (by rfl) (.tmp 3) rfl (w.heap.size + 1) 0 rfl b (QB.out) ?_; simp only [Act.put, List.setIfInBounds_toArray, List.set_cons_succ, List.set_cons_zero])
      | ((with_reducible refine at_qload 27 ?_); refine wpQuiet_load_one (by rfl) 23 (.tmp 27) rfl ⟨w.heap.size, 1, none⟩ rfl (.slice a.Ai a.T.ins.length a.ci) Try.isAgg23 (S1.out) ?_; simp only [Act.put, List.setIfInBounds_toArray, List.set_cons_succ, List.set_cons_zero])
      | ((with_reducible refine at_qload 30 ?_); refine wpQuiet_load_one (by rfl) 27 (.tmp 30) rfl ⟨w.heap.size, 35, none⟩ rfl (.slice a.An a.T.nulls.length a.cn) Try.isAgg27 (S4.out) ?_; simp only [Act.put, List.setIfInBounds_toArray, List.set_cons_succ, List.set_cons_zero])
      | (go_big_quiet_want; go_big_quiet_op; refine ⟨_, fun _ _ => by with_reducible rfl, ?_⟩; go_big_quiet_on)
      | go_big_quiet_step ((intro hC; first
          | (go_at_call 15; with_reducible exact (F1.out _ hC).mono fun _ _ h => ⟨h.1, hC.call h.2⟩)
          | (go_at_call 15; with_reducible exact (F2.out _ hC).mono fun _ _ h => ⟨h.1, hC.call h.2⟩)
          | (go_at_call 15; with_reducible exact (F3.out _ hC).mono fun _ _ h => ⟨h.1, hC.call h.2⟩)
          | (go_at_call 13; with_reducible exact (C1.out _ hC).mono fun _ _ h => ⟨h.1, hC.call h.2⟩))))
    refine wpQuiet_nil ?_
    intro w9 hC
    have B9 := Lib.hid (HH.out.below.trans (hC.below.mono HH.out.below.size))
    clear hC
    go_wp2_with fail
    go_ret
    exact ⟨by first | rfl | simp, B9.out⟩
theorem chFights_walk (HCK : ChkTOk) (HFI : FightOk) (HPO : PointsOk) (HVA : ValuesOk) (a b : TxA) (w : World) (ha : a.In w w.heap.size) (hb : b.In w w.heap.size) :
    Calls Try.prog 4 #[.agg a.cells.toArray, .agg b.cells.toArray] w fun e w' => e = .returned (.bool true) ∧ Below w.heap.size w w' := by
  cases hv : heavyF a.T with
  | true => exact chFights_h1 HCK HFI HPO HVA a b w ha hb hv
  | false =>
    cases hu : heavyF b.T with
    | true => exact chFights_h2 HCK HFI HPO HVA a b w ha hb hv hu
    | false => exact chFights_m HCK HFI HPO HVA a b w ha hb hv hu
set_option maxRecDepth 20000 in
set_option maxHeartbeats 4000000 in
theorem chSecret_h (HCK : ChkTOk) (HPO : PointsOk) (a : TxA) (z : IntV .i32) (w : World) (ha : a.In w w.heap.size) (hv : heavyF a.T = true) :
    Calls Try.prog 6 #[.agg a.cells.toArray, .int .i32 z.1] w fun e w' => e = .returned (.bool true) ∧ Below w.heap.size w w' := by
  have SH := Lib.hid (fun W => chshown_any HCK HPO W)
  have IA := Lib.hid ha
  have HH := Lib.hid (show Holds w [(w.heap.size, 29, a.cells.toArray)] (w.alloc (.cells a.cells.toArray 29)) from (Holds.nil w).box 29 a.cells.toArray)
  clear ha IA
  go_enter Try.func6, Try.ntmps6
  go_wp2_with ((with_reducible refine at_load 2 ?_); refine tyTx.wpList_load rfl (.tmp 2) rfl (w.heap.size) 0 rfl a (RowC.of_blk (HH.out.at (x := (w.heap.size, 29, a.cells.toArray)) (by simp))) ?_)
  with_reducible refine (chheavy_any a _).mono ?_
  rintro e w1 ⟨rfl, bq⟩
  have HQ := Lib.hid (HH.out.call bq)
  clear bq HH
  have HH := HQ
  clear HQ
  rw [hv]
  go_wp2_with fail
  with_reducible refine (SH.out _).mono ?_
  rintro e w2 ⟨rfl, bq⟩
  have HQ := Lib.hid (HH.out.call bq)
  clear bq HH
  have HH := HQ
  clear HQ
  go_wp2_with fail
  go_ret
  exact ⟨rfl, HH.out.below⟩
set_option maxRecDepth 20000 in
set_option maxHeartbeats 4000000 in
theorem chSecret_m (HCK : ChkTOk) (HPO : PointsOk) (a : TxA) (z : IntV .i32) (w : World) (ha : a.In w w.heap.size) (hv : heavyF a.T = false) :
    Calls Try.prog 6 #[.agg a.cells.toArray, .int .i32 z.1] w fun e w' => e = .returned (.bool true) ∧ Below w.heap.size w w' := by
  have SH := Lib.hid (fun W => chshown_any HCK HPO W)
  have IA := Lib.hid ha
  have HH := Lib.hid (show Holds w [(w.heap.size, 29, a.cells.toArray)] (w.alloc (.cells a.cells.toArray 29)) from (Holds.nil w).box 29 a.cells.toArray)
  have NA := Lib.hid (ch_some hv)
  clear ha
  obtain ⟨c, hc⟩ : ∃ c, checkF a.T false = c := ⟨_, rfl⟩
  have HC := Lib.hid (show ∀ W, a.In W W.heap.size → Calls Try.prog 13 #[.agg a.cells.toArray, .bool false] W fun e w' => e = .returned (.int .i64 c) ∧ Below W.heap.size W w' from fun W h => hc ▸ HCK a false W h NA.out)
  have HC0 := Lib.hid hc
  clear hc
  go_enter Try.func6, Try.ntmps6
  go_wp2_with ((with_reducible refine at_load 2 ?_); refine tyTx.wpList_load rfl (.tmp 2) rfl (w.heap.size) 0 rfl a (RowC.of_blk (HH.out.at (x := (w.heap.size, 29, a.cells.toArray)) (by simp))) ?_)
  with_reducible refine (chheavy_any a _).mono ?_
  rintro e w1 ⟨rfl, bq⟩
  have HQ := Lib.hid (HH.out.call bq)
  clear bq HH
  have HH := HQ
  clear HQ
  rw [hv]
  go_wp2_with fail
  with_reducible refine (SH.out _).mono ?_
  rintro e w2 ⟨rfl, bq⟩
  have HQ := Lib.hid (HH.out.call bq)
  clear bq HH
  have HH := HQ
  clear HQ
  go_wp2_with ((with_reducible refine at_load 2 ?_); refine tyTx.wpList_load rfl (.tmp 2) rfl (w.heap.size) 0 rfl a (RowC.of_blk (HH.out.at (x := (w.heap.size, 29, a.cells.toArray)) (by simp))) ?_)
  with_reducible refine (HC.out _ (IA.out.on HH.out.below (Nat.le_refl _))).mono ?_
  rintro e w3 ⟨rfl, bq⟩
  have HQ := Lib.hid (HH.out.call bq)
  clear bq HH
  have HH := HQ
  clear HQ
  clear HC
  by_cases h0 : c = 0
  · subst h0
    have i3 := NA.out.n
    have i4 := NA.out.t
    obtain ⟨q3, hq3⟩ : ∃ q, decide (0 < z.1) = q := ⟨_, rfl⟩
    obtain ⟨q4, hq4⟩ : ∃ q, decide (z.1 < 0) = q := ⟨_, rfl⟩
    obtain ⟨x3, hx3⟩ : ∃ q, ((a.T.nulls.length : Int) == 0) = q := ⟨_, rfl⟩
    obtain ⟨x4, hx4⟩ : ∃ q, ((a.T.notes.length : Int) == 0) = q := ⟨_, rfl⟩
    have HZR := Lib.hid (show -2147483648 ≤ z.1 ∧ z.1 ≤ 2147483647 from wf_i32 z)
    have hcv : IntKind.i64.wrap z.1 = z.1 := by have := HZR.out; rw [IntKind.wrap_i64]; omega
    have HBL := Lib.hid (show checkF { a.T with bal := ⟨z.1, wf_i64.2 (by have := HZR.out; omega)⟩ } false = if (q3 && x3) || (q4 && x4) then 20 else 0 by
      rw [check_bal HC0.out _ (show -2100000000000000 ≤ z.1 ∧ z.1 ≤ 2100000000000000 by have := HZR.out; omega)]
      have h3 : decide (a.T.nulls.length = 0) = x3 := by rw [← hx3, Bool.eq_iff_iff, decide_eq_true_iff, beq_iff_eq]; omega
      have h4 : decide (a.T.notes.length = 0) = x4 := by rw [← hx4, Bool.eq_iff_iff, decide_eq_true_iff, beq_iff_eq]; omega
      rw [hq3, hq4, h3, h4])
    obtain ⟨d, hd⟩ : ∃ d : TxA, ({ a with T := { a.T with bal := ⟨z.1, wf_i64.2 (by have := HZR.out; omega)⟩ } } : TxA) = d := ⟨_, rfl⟩
    have HDC := Lib.hid (show a.cells.toArray.setIfInBounds 37 (.int .i64 z.1) = d.cells.toArray by rw [← hd]; exact tx_set_bal ⟨z.1, wf_i64.2 (by have := HZR.out; omega)⟩)
    have HDI := Lib.hid (show ∀ W, a.In W W.heap.size → d.In W W.heap.size from fun W h => by rw [← hd]; exact ⟨h.ins, h.outs, h.nulls, h.notes⟩)
    have HDL := Lib.hid (show d.T.nulls.length = a.T.nulls.length ∧ d.T.notes.length = a.T.notes.length ∧ d.An = a.An ∧ d.cn = a.cn ∧ d.At = a.At ∧ d.ct = a.ct by rw [← hd]; exact ⟨rfl, rfl, rfl, rfl, rfl, rfl⟩)
    have HDK := Lib.hid (show checkF d.T false = if (q3 && x3) || (q4 && x4) then 20 else 0 by rw [← hd]; exact HBL.out)
    have HDS := Lib.hid (show Some120 d.T by rw [← hd]; exact ⟨NA.out.i, NA.out.o, NA.out.n, NA.out.t⟩)
    clear hd HBL
    have HKD := Lib.hid (show ∀ W, d.In W W.heap.size → Calls Try.prog 13 #[.agg d.cells.toArray, .bool false] W fun e w' => e = .returned (.int .i64 (checkF d.T false)) ∧ Below W.heap.size W w' from fun W h => HCK d false W h HDS.out)
    cases q3 with
    | true =>
      cases x3 with
      | true =>
        have HV := Lib.hid (show checkF d.T false = 20 by rw [HDK.out]; simp)
        go_wp2_with (first
          | ((with_reducible refine at_store 18 17 ?_); refine wpList_store_cell rfl 2 (.tmp 18) (.tmp 17) rfl rfl w.heap.size 37 (.int .i64 z.1) rfl rfl rfl 29 a.cells.toArray (HH.out.at (x := (w.heap.size, 29, a.cells.toArray)) (by simp)) (by rw [List.size_toArray, a.len]; decide) (by kernel_rfl) ?_; intro w4 o4 b4
             rw [HDC.out] at b4
             have H4 := Lib.hid (show Holds w [(w.heap.size, 29, d.cells.toArray)] w4 from HH.out.turn o4 b4 (Nat.le_refl _) (by simp))
             have k4 : w4.cell? ⟨w.heap.size, 35, none⟩ = some (.slice a.An a.T.nulls.length a.cn) := by
               have := TxA.c4 (RowC.of_blk b4)
               rw [HDL.out.1, HDL.out.2.2.1, HDL.out.2.2.2.1] at this
               exact this
             have k5 : w4.cell? ⟨w.heap.size, 36, none⟩ = some (.slice a.At a.T.notes.length a.ct) := by
               have := TxA.c5 (RowC.of_blk b4)
               rw [HDL.out.2.1, HDL.out.2.2.2.2.1, HDL.out.2.2.2.2.2] at this
               exact this
             clear o4 b4)
          | ((with_reducible refine at_load 2 ?_); refine tyTx.wpList_load rfl (.tmp 2) rfl (w.heap.size) 0 rfl d (RowC.of_blk (H4.out.at (x := (w.heap.size, 29, d.cells.toArray)) (by simp))) ?_))
        with_reducible refine (HKD.out _ (HDI.out _ (IA.out.on H4.out.below (Nat.le_refl _)))).mono ?_
        rintro e w5 ⟨rfl, b5⟩
        rw [HV.out]
        have B5 := Lib.hid (H4.out.below.trans (b5.mono H4.out.below.size))
        clear b5
        go_wp2_with fail
        go_ret
        exact ⟨rfl, B5.out⟩
      | false =>
        cases q4 with
        | true =>
          cases x4 with
          | true =>
            have HV := Lib.hid (show checkF d.T false = 20 by rw [HDK.out]; simp)
            go_wp2_with (first
              | ((with_reducible refine at_store 18 17 ?_); refine wpList_store_cell rfl 2 (.tmp 18) (.tmp 17) rfl rfl w.heap.size 37 (.int .i64 z.1) rfl rfl rfl 29 a.cells.toArray (HH.out.at (x := (w.heap.size, 29, a.cells.toArray)) (by simp)) (by rw [List.size_toArray, a.len]; decide) (by kernel_rfl) ?_; intro w4 o4 b4
                 rw [HDC.out] at b4
                 have H4 := Lib.hid (show Holds w [(w.heap.size, 29, d.cells.toArray)] w4 from HH.out.turn o4 b4 (Nat.le_refl _) (by simp))
                 have k4 : w4.cell? ⟨w.heap.size, 35, none⟩ = some (.slice a.An a.T.nulls.length a.cn) := by
                   have := TxA.c4 (RowC.of_blk b4)
                   rw [HDL.out.1, HDL.out.2.2.1, HDL.out.2.2.2.1] at this
                   exact this
                 have k5 : w4.cell? ⟨w.heap.size, 36, none⟩ = some (.slice a.At a.T.notes.length a.ct) := by
                   have := TxA.c5 (RowC.of_blk b4)
                   rw [HDL.out.2.1, HDL.out.2.2.2.2.1, HDL.out.2.2.2.2.2] at this
                   exact this
                 clear o4 b4)
              | ((with_reducible refine at_load 2 ?_); refine tyTx.wpList_load rfl (.tmp 2) rfl (w.heap.size) 0 rfl d (RowC.of_blk (H4.out.at (x := (w.heap.size, 29, d.cells.toArray)) (by simp))) ?_))
            with_reducible refine (HKD.out _ (HDI.out _ (IA.out.on H4.out.below (Nat.le_refl _)))).mono ?_
            rintro e w5 ⟨rfl, b5⟩
            rw [HV.out]
            have B5 := Lib.hid (H4.out.below.trans (b5.mono H4.out.below.size))
            clear b5
            go_wp2_with fail
            go_ret
            exact ⟨rfl, B5.out⟩
          | false =>
            have HV := Lib.hid (show checkF d.T false = 0 by rw [HDK.out]; simp)
            go_wp2_with (first
              | ((with_reducible refine at_store 18 17 ?_); refine wpList_store_cell rfl 2 (.tmp 18) (.tmp 17) rfl rfl w.heap.size 37 (.int .i64 z.1) rfl rfl rfl 29 a.cells.toArray (HH.out.at (x := (w.heap.size, 29, a.cells.toArray)) (by simp)) (by rw [List.size_toArray, a.len]; decide) (by kernel_rfl) ?_; intro w4 o4 b4
                 rw [HDC.out] at b4
                 have H4 := Lib.hid (show Holds w [(w.heap.size, 29, d.cells.toArray)] w4 from HH.out.turn o4 b4 (Nat.le_refl _) (by simp))
                 have k4 : w4.cell? ⟨w.heap.size, 35, none⟩ = some (.slice a.An a.T.nulls.length a.cn) := by
                   have := TxA.c4 (RowC.of_blk b4)
                   rw [HDL.out.1, HDL.out.2.2.1, HDL.out.2.2.2.1] at this
                   exact this
                 have k5 : w4.cell? ⟨w.heap.size, 36, none⟩ = some (.slice a.At a.T.notes.length a.ct) := by
                   have := TxA.c5 (RowC.of_blk b4)
                   rw [HDL.out.2.1, HDL.out.2.2.2.2.1, HDL.out.2.2.2.2.2] at this
                   exact this
                 clear o4 b4)
              | ((with_reducible refine at_load 2 ?_); refine tyTx.wpList_load rfl (.tmp 2) rfl (w.heap.size) 0 rfl d (RowC.of_blk (H4.out.at (x := (w.heap.size, 29, d.cells.toArray)) (by simp))) ?_))
            with_reducible refine (HKD.out _ (HDI.out _ (IA.out.on H4.out.below (Nat.le_refl _)))).mono ?_
            rintro e w5 ⟨rfl, b5⟩
            rw [HV.out]
            have B5 := Lib.hid (H4.out.below.trans (b5.mono H4.out.below.size))
            clear b5
            go_wp2_with fail
            go_ret
            exact ⟨rfl, B5.out⟩
        | false =>
          have HV := Lib.hid (show checkF d.T false = 0 by rw [HDK.out]; simp)
          go_wp2_with (first
            | ((with_reducible refine at_store 18 17 ?_); refine wpList_store_cell rfl 2 (.tmp 18) (.tmp 17) rfl rfl w.heap.size 37 (.int .i64 z.1) rfl rfl rfl 29 a.cells.toArray (HH.out.at (x := (w.heap.size, 29, a.cells.toArray)) (by simp)) (by rw [List.size_toArray, a.len]; decide) (by kernel_rfl) ?_; intro w4 o4 b4
               rw [HDC.out] at b4
               have H4 := Lib.hid (show Holds w [(w.heap.size, 29, d.cells.toArray)] w4 from HH.out.turn o4 b4 (Nat.le_refl _) (by simp))
               have k4 : w4.cell? ⟨w.heap.size, 35, none⟩ = some (.slice a.An a.T.nulls.length a.cn) := by
                 have := TxA.c4 (RowC.of_blk b4)
                 rw [HDL.out.1, HDL.out.2.2.1, HDL.out.2.2.2.1] at this
                 exact this
               have k5 : w4.cell? ⟨w.heap.size, 36, none⟩ = some (.slice a.At a.T.notes.length a.ct) := by
                 have := TxA.c5 (RowC.of_blk b4)
                 rw [HDL.out.2.1, HDL.out.2.2.2.2.1, HDL.out.2.2.2.2.2] at this
                 exact this
               clear o4 b4)
            | ((with_reducible refine at_load 2 ?_); refine tyTx.wpList_load rfl (.tmp 2) rfl (w.heap.size) 0 rfl d (RowC.of_blk (H4.out.at (x := (w.heap.size, 29, d.cells.toArray)) (by simp))) ?_))
          with_reducible refine (HKD.out _ (HDI.out _ (IA.out.on H4.out.below (Nat.le_refl _)))).mono ?_
          rintro e w5 ⟨rfl, b5⟩
          rw [HV.out]
          have B5 := Lib.hid (H4.out.below.trans (b5.mono H4.out.below.size))
          clear b5
          go_wp2_with fail
          go_ret
          exact ⟨rfl, B5.out⟩
    | false =>
      cases q4 with
      | true =>
        cases x4 with
        | true =>
          have HV := Lib.hid (show checkF d.T false = 20 by rw [HDK.out]; simp)
          go_wp2_with (first
            | ((with_reducible refine at_store 18 17 ?_); refine wpList_store_cell rfl 2 (.tmp 18) (.tmp 17) rfl rfl w.heap.size 37 (.int .i64 z.1) rfl rfl rfl 29 a.cells.toArray (HH.out.at (x := (w.heap.size, 29, a.cells.toArray)) (by simp)) (by rw [List.size_toArray, a.len]; decide) (by kernel_rfl) ?_; intro w4 o4 b4
               rw [HDC.out] at b4
               have H4 := Lib.hid (show Holds w [(w.heap.size, 29, d.cells.toArray)] w4 from HH.out.turn o4 b4 (Nat.le_refl _) (by simp))
               have k4 : w4.cell? ⟨w.heap.size, 35, none⟩ = some (.slice a.An a.T.nulls.length a.cn) := by
                 have := TxA.c4 (RowC.of_blk b4)
                 rw [HDL.out.1, HDL.out.2.2.1, HDL.out.2.2.2.1] at this
                 exact this
               have k5 : w4.cell? ⟨w.heap.size, 36, none⟩ = some (.slice a.At a.T.notes.length a.ct) := by
                 have := TxA.c5 (RowC.of_blk b4)
                 rw [HDL.out.2.1, HDL.out.2.2.2.2.1, HDL.out.2.2.2.2.2] at this
                 exact this
               clear o4 b4)
            | ((with_reducible refine at_load 2 ?_); refine tyTx.wpList_load rfl (.tmp 2) rfl (w.heap.size) 0 rfl d (RowC.of_blk (H4.out.at (x := (w.heap.size, 29, d.cells.toArray)) (by simp))) ?_))
          with_reducible refine (HKD.out _ (HDI.out _ (IA.out.on H4.out.below (Nat.le_refl _)))).mono ?_
          rintro e w5 ⟨rfl, b5⟩
          rw [HV.out]
          have B5 := Lib.hid (H4.out.below.trans (b5.mono H4.out.below.size))
          clear b5
          go_wp2_with fail
          go_ret
          exact ⟨rfl, B5.out⟩
        | false =>
          have HV := Lib.hid (show checkF d.T false = 0 by rw [HDK.out]; simp)
          go_wp2_with (first
            | ((with_reducible refine at_store 18 17 ?_); refine wpList_store_cell rfl 2 (.tmp 18) (.tmp 17) rfl rfl w.heap.size 37 (.int .i64 z.1) rfl rfl rfl 29 a.cells.toArray (HH.out.at (x := (w.heap.size, 29, a.cells.toArray)) (by simp)) (by rw [List.size_toArray, a.len]; decide) (by kernel_rfl) ?_; intro w4 o4 b4
               rw [HDC.out] at b4
               have H4 := Lib.hid (show Holds w [(w.heap.size, 29, d.cells.toArray)] w4 from HH.out.turn o4 b4 (Nat.le_refl _) (by simp))
               have k4 : w4.cell? ⟨w.heap.size, 35, none⟩ = some (.slice a.An a.T.nulls.length a.cn) := by
                 have := TxA.c4 (RowC.of_blk b4)
                 rw [HDL.out.1, HDL.out.2.2.1, HDL.out.2.2.2.1] at this
                 exact this
               have k5 : w4.cell? ⟨w.heap.size, 36, none⟩ = some (.slice a.At a.T.notes.length a.ct) := by
                 have := TxA.c5 (RowC.of_blk b4)
                 rw [HDL.out.2.1, HDL.out.2.2.2.2.1, HDL.out.2.2.2.2.2] at this
                 exact this
               clear o4 b4)
            | ((with_reducible refine at_load 2 ?_); refine tyTx.wpList_load rfl (.tmp 2) rfl (w.heap.size) 0 rfl d (RowC.of_blk (H4.out.at (x := (w.heap.size, 29, d.cells.toArray)) (by simp))) ?_))
          with_reducible refine (HKD.out _ (HDI.out _ (IA.out.on H4.out.below (Nat.le_refl _)))).mono ?_
          rintro e w5 ⟨rfl, b5⟩
          rw [HV.out]
          have B5 := Lib.hid (H4.out.below.trans (b5.mono H4.out.below.size))
          clear b5
          go_wp2_with fail
          go_ret
          exact ⟨rfl, B5.out⟩
      | false =>
        have HV := Lib.hid (show checkF d.T false = 0 by rw [HDK.out]; simp)
        go_wp2_with (first
          | ((with_reducible refine at_store 18 17 ?_); refine wpList_store_cell rfl 2 (.tmp 18) (.tmp 17) rfl rfl w.heap.size 37 (.int .i64 z.1) rfl rfl rfl 29 a.cells.toArray (HH.out.at (x := (w.heap.size, 29, a.cells.toArray)) (by simp)) (by rw [List.size_toArray, a.len]; decide) (by kernel_rfl) ?_; intro w4 o4 b4
             rw [HDC.out] at b4
             have H4 := Lib.hid (show Holds w [(w.heap.size, 29, d.cells.toArray)] w4 from HH.out.turn o4 b4 (Nat.le_refl _) (by simp))
             have k4 : w4.cell? ⟨w.heap.size, 35, none⟩ = some (.slice a.An a.T.nulls.length a.cn) := by
               have := TxA.c4 (RowC.of_blk b4)
               rw [HDL.out.1, HDL.out.2.2.1, HDL.out.2.2.2.1] at this
               exact this
             have k5 : w4.cell? ⟨w.heap.size, 36, none⟩ = some (.slice a.At a.T.notes.length a.ct) := by
               have := TxA.c5 (RowC.of_blk b4)
               rw [HDL.out.2.1, HDL.out.2.2.2.2.1, HDL.out.2.2.2.2.2] at this
               exact this
             clear o4 b4)
          | ((with_reducible refine at_load 2 ?_); refine tyTx.wpList_load rfl (.tmp 2) rfl (w.heap.size) 0 rfl d (RowC.of_blk (H4.out.at (x := (w.heap.size, 29, d.cells.toArray)) (by simp))) ?_))
        with_reducible refine (HKD.out _ (HDI.out _ (IA.out.on H4.out.below (Nat.le_refl _)))).mono ?_
        rintro e w5 ⟨rfl, b5⟩
        rw [HV.out]
        have B5 := Lib.hid (H4.out.below.trans (b5.mono H4.out.below.size))
        clear b5
        go_wp2_with fail
        go_ret
        exact ⟨rfl, B5.out⟩
  · have hne : (c != 0) = true := by simpa using h0
    go_wp2_with fail
    go_ret
    exact ⟨rfl, HH.out.below⟩
theorem chSecret_walk (HCK : ChkTOk) (HPO : PointsOk) (a : TxA) (z : IntV .i32) (w : World) (ha : a.In w w.heap.size) :
    Calls Try.prog 6 #[.agg a.cells.toArray, .int .i32 z.1] w fun e w' => e = .returned (.bool true) ∧ Below w.heap.size w w' := by
  cases hv : heavyF a.T with
  | true => exact chSecret_h HCK HPO a z w ha hv
  | false => exact chSecret_m HCK HPO a z w ha hv
set_option maxRecDepth 20000 in
set_option maxHeartbeats 4000000 in
theorem chTells_h1 (HCK : ChkTOk) (_ : FightOk) (HPO : PointsOk) (_ : ValuesOk) (a b : TxA) (base : Bool) (w : World) (ha : a.In w w.heap.size) (hb : b.In w w.heap.size) (hv : heavyF a.T = true) :
    Calls Try.prog 3 #[.agg a.cells.toArray, .agg b.cells.toArray, .bool base] w fun e w' => e = .returned (.bool true) ∧ Below w.heap.size w w' := by
  have SH := Lib.hid (fun W => chshown_any HCK HPO W)
  have IA := Lib.hid ha
  have IB := Lib.hid hb
  have HH := Lib.hid (show Holds w [(w.heap.size + 1, 29, b.cells.toArray), (w.heap.size, 29, a.cells.toArray)] ((w.alloc (.cells a.cells.toArray 29)).alloc (.cells b.cells.toArray 29)) from by
    have := ((Holds.nil w).box 29 a.cells.toArray).box 29 b.cells.toArray
    simpa only [World.size_alloc] using this)
  clear ha hb IA IB
  go_enter Try.func3, Try.ntmps3
  go_wp2_with ((with_reducible refine at_load 3 ?_); refine tyTx.wpList_load rfl (.tmp 3) rfl (w.heap.size) 0 rfl a (RowC.of_blk (HH.out.at (x := (w.heap.size, 29, a.cells.toArray)) (by simp))) ?_)
  with_reducible refine (chheavy_any a _).mono ?_
  rintro e w1 ⟨rfl, bq⟩
  have HQ := Lib.hid (HH.out.call bq)
  clear bq HH
  have HH := HQ
  clear HQ
  rw [hv]
  go_wp2_with fail
  with_reducible refine (SH.out _).mono ?_
  rintro e w2 ⟨rfl, bq⟩
  have HQ := Lib.hid (HH.out.call bq)
  clear bq HH
  have HH := HQ
  clear HQ
  go_wp2_with fail
  go_ret
  exact ⟨rfl, HH.out.below⟩
set_option maxRecDepth 20000 in
set_option maxHeartbeats 4000000 in
theorem chTells_h2 (HCK : ChkTOk) (_ : FightOk) (HPO : PointsOk) (_ : ValuesOk) (a b : TxA) (base : Bool) (w : World) (ha : a.In w w.heap.size) (hb : b.In w w.heap.size) (hv : heavyF a.T = false) (hu : heavyF b.T = true) :
    Calls Try.prog 3 #[.agg a.cells.toArray, .agg b.cells.toArray, .bool base] w fun e w' => e = .returned (.bool true) ∧ Below w.heap.size w w' := by
  have SH := Lib.hid (fun W => chshown_any HCK HPO W)
  have IA := Lib.hid ha
  have IB := Lib.hid hb
  have HH := Lib.hid (show Holds w [(w.heap.size + 1, 29, b.cells.toArray), (w.heap.size, 29, a.cells.toArray)] ((w.alloc (.cells a.cells.toArray 29)).alloc (.cells b.cells.toArray 29)) from by
    have := ((Holds.nil w).box 29 a.cells.toArray).box 29 b.cells.toArray
    simpa only [World.size_alloc] using this)
  clear ha hb IA IB
  go_enter Try.func3, Try.ntmps3
  go_wp2_with ((with_reducible refine at_load 3 ?_); refine tyTx.wpList_load rfl (.tmp 3) rfl (w.heap.size) 0 rfl a (RowC.of_blk (HH.out.at (x := (w.heap.size, 29, a.cells.toArray)) (by simp))) ?_)
  with_reducible refine (chheavy_any a _).mono ?_
  rintro e w1 ⟨rfl, bq⟩
  have HQ := Lib.hid (HH.out.call bq)
  clear bq HH
  have HH := HQ
  clear HQ
  rw [hv]
  go_wp2_with ((with_reducible refine at_loadg 4 ?_); refine tyTx.wpList_load (by rfl) (.tmp 4) rfl (w.heap.size + 1) 0 rfl b (RowC.of_blk (HH.out.at (x := (w.heap.size + 1, 29, b.cells.toArray)) (by simp))) ?_)
  with_reducible refine (chheavy_any b _).mono ?_
  rintro e w2 ⟨rfl, bq⟩
  have HQ := Lib.hid (HH.out.call bq)
  clear bq HH
  have HH := HQ
  clear HQ
  rw [hu]
  go_wp2_with fail
  with_reducible refine (SH.out _).mono ?_
  rintro e w3 ⟨rfl, bq⟩
  have HQ := Lib.hid (HH.out.call bq)
  clear bq HH
  have HH := HQ
  clear HQ
  go_wp2_with fail
  go_ret
  exact ⟨rfl, HH.out.below⟩
set_option maxRecDepth 20000 in
set_option maxHeartbeats 4000000 in
theorem chTells_m (HCK : ChkTOk) (HFI : FightOk) (HPO : PointsOk) (HVA : ValuesOk) (a b : TxA) (base : Bool) (w : World) (ha : a.In w w.heap.size) (hb : b.In w w.heap.size) (hv : heavyF a.T = false) (hu : heavyF b.T = false) :
    Calls Try.prog 3 #[.agg a.cells.toArray, .agg b.cells.toArray, .bool base] w fun e w' => e = .returned (.bool true) ∧ Below w.heap.size w w' := by
  have SH := Lib.hid (fun W => chshown_any HCK HPO W)
  have IA := Lib.hid ha
  have IB := Lib.hid hb
  have HH := Lib.hid (show Holds w [(w.heap.size + 1, 29, b.cells.toArray), (w.heap.size, 29, a.cells.toArray)] ((w.alloc (.cells a.cells.toArray 29)).alloc (.cells b.cells.toArray 29)) from by
    have := ((Holds.nil w).box 29 a.cells.toArray).box 29 b.cells.toArray
    simpa only [World.size_alloc] using this)
  have NA := Lib.hid (ch_some hv)
  have NB := Lib.hid (ch_some hu)
  clear ha hb
  obtain ⟨f, hf⟩ : ∃ f, fightF a.T b.T = f := ⟨_, rfl⟩
  obtain ⟨c, hc⟩ : ∃ c, checkF a.T base = c := ⟨_, rfl⟩
  obtain ⟨p, hp⟩ : ∃ p, decide a.T.ins.Nodup = p := ⟨_, rfl⟩
  have XF := Lib.hid (And.intro hf (And.intro hc hp))
  have HV1 := Lib.hid (fun W h => HVA a W h NA.out)
  have HV2 := Lib.hid (fun W h => rValues_k a W h (by have := NA.out.o; omega))
  have HNV := Lib.hid (show (valsV a.T).length ≤ 120 by rw [valsV_len]; exact NA.out.o)
  clear hf hc hp HVA
  go_enter Try.func3, Try.ntmps3
  go_wp2_with ((with_reducible refine at_load 3 ?_); refine tyTx.wpList_load rfl (.tmp 3) rfl (w.heap.size) 0 rfl a (RowC.of_blk (HH.out.at (x := (w.heap.size, 29, a.cells.toArray)) (by simp))) ?_)
  with_reducible refine (chheavy_any a _).mono ?_
  rintro e w1 ⟨rfl, bq⟩
  have HQ := Lib.hid (HH.out.call bq)
  clear bq HH
  have HH := HQ
  clear HQ
  rw [hv]
  go_wp2_with ((with_reducible refine at_loadg 4 ?_); refine tyTx.wpList_load (by rfl) (.tmp 4) rfl (w.heap.size + 1) 0 rfl b (RowC.of_blk (HH.out.at (x := (w.heap.size + 1, 29, b.cells.toArray)) (by simp))) ?_)
  with_reducible refine (chheavy_any b _).mono ?_
  rintro e w2 ⟨rfl, bq⟩
  have HQ := Lib.hid (HH.out.call bq)
  clear bq HH
  have HH := HQ
  clear HQ
  rw [hu]
  go_wp2_with fail
  with_reducible refine (SH.out _).mono ?_
  rintro e w3 ⟨rfl, bq⟩
  have HQ := Lib.hid (HH.out.call bq)
  clear bq HH
  have HH := HQ
  clear HQ
  go_wp2_with ((with_reducible refine at_load 3 ?_); refine tyTx.wpList_load rfl (.tmp 3) rfl (w.heap.size) 0 rfl a (RowC.of_blk (HH.out.at (x := (w.heap.size, 29, a.cells.toArray)) (by simp))) ?_)
  refine (HV1.out _ (IA.out.on HH.out.below (Nat.le_refl _))).mono ?_
  rintro e w4 ⟨A7, c7, rfl, r7, bq⟩
  have HQ := Lib.hid (HH.out.call bq)
  clear bq HH
  have HH := HQ
  clear HQ HV1
  have R7 := Lib.hid r7
  clear r7
  go_wp2_with ((with_reducible refine at_load 3 ?_); refine tyTx.wpList_load rfl (.tmp 3) rfl (w.heap.size) 0 rfl a (RowC.of_blk (HH.out.at (x := (w.heap.size, 29, a.cells.toArray)) (by simp))) ?_)
  refine (HV2.out _ (IA.out.on HH.out.below (Nat.le_refl _))).mono ?_
  rintro e w5 ⟨A8, c8, rfl, r8, bq⟩
  have HQ := Lib.hid (HH.out.call bq)
  have R78 := Lib.hid (And.intro ((R7.out.below bq).more bq.size) r8)
  clear bq HH R7 r8
  have HH := HQ
  clear HQ HV2
  obtain ⟨vs, hvs⟩ : ∃ vs, valsV a.T = vs := ⟨_, rfl⟩
  rw [hvs] at R78 HNV ⊢
  clear hvs
  have hnv : vs.length ≤ 9223372036854775807 := by have := HNV.out; omega
  go_wp2_with fail
  go_loopw [9] (fun si wr => ∃ j : Nat, si = .int .i64 j ∧ j ≤ vs.length ∧ Hid (Holds w [(w.heap.size + 1, 29, b.cells.toArray), (w.heap.size, 29, a.cells.toArray)] wr) ∧ Hid (RowIn (enc1 .i64) 1 wr wr.heap.size A7 c7 vs ∧ RowIn (enc1 .i64) 1 wr wr.heap.size A8 c8 vs)) (fun si _ => vs.length - (intOf si).toNat)
  case atStart => exact ⟨0, rfl, Nat.zero_le _, HH, R78⟩
  case round =>
    clear HH R78
    obtain ⟨j, rfl, hj, HH, R78⟩ := hrel
    by_cases hlt : j < vs.length
    · have hd : decide ((j : Int) < (vs.length : Int)) = true := by simp; omega
      have hi0 : (0 : Int) ≤ (j : Int) := by omega
      have hi1 : (j : Int) < (vs.length : Int) := by omega
      obtain ⟨g7, o7, hA7, hg7, hc7⟩ := R78.out.1.at (enc1_len _) hlt
      obtain ⟨g8, o8, hA8, hg8, hc8⟩ := R78.out.2.at (enc1_len _) hlt
      obtain ⟨x, hx⟩ : ∃ x, vs[j]'hlt = x := ⟨_, rfl⟩
      rw [hx] at hc7 hc8
      subst hA7
      subst hA8
      have D7 := Lib.hid (show ∀ W, From wr W → W.cell? ⟨g7, o7 + j * 1, none⟩ = some (.int .i64 x.1) from fun W hC => (hc7.below hC.below hg7).head)
      have D8 := Lib.hid (show ∀ W, From wr W → W.cell? ⟨g8, o8 + j * 1, none⟩ = some (.int .i64 x.1) from fun W hC => (hc8.below hC.below hg8).head)
      have HLT := Lib.hid hlt
      clear hc7 hc8 hx hg7 hg8
      simp only [Nat.mul_one] at D7 D8
      go_wp2_with fail
      refine wp_region_from (by kernel_rfl) (by kernel_rfl) ?_
      repeat (first
        | go_big_quiet_skip
        | ((with_reducible refine at_qload 38 ?_); refine wpQuiet_load_one (by rfl) 2 (.tmp 38) rfl ⟨g7, o7 + j, none⟩ rfl (.int .i64 x.1) Try.isAgg2 (D7.out) ?_; simp only [Act.put, List.setIfInBounds_toArray, List.set_cons_succ, List.set_cons_zero])
        | ((with_reducible refine at_qload 42 ?_); refine wpQuiet_load_one (by rfl) 2 (.tmp 42) rfl ⟨g8, o8 + j, none⟩ rfl (.int .i64 x.1) Try.isAgg2 (D8.out) ?_; simp only [Act.put, List.setIfInBounds_toArray, List.set_cons_succ, List.set_cons_zero])
        | (go_big_quiet_want; go_big_quiet_op; refine ⟨_, fun _ _ => by with_reducible rfl, ?_⟩; go_big_quiet_on)
        | go_big_quiet_step (fail))
      refine wpQuiet_nil ?_
      intro w9 hC
      have H9 := Lib.hid (HH.out.call hC.below)
      have R9 := Lib.hid (And.intro ((R78.out.1.below hC.below).more hC.below.size) ((R78.out.2.below hC.below).more hC.below.size))
      clear hC D7 D8 HH R78
      go_wp2_with fail
      go_roundw
      case rel => exact ⟨j + 1, by go_num, HLT.out, H9, R9⟩
      case measure => have := HLT.out; simp [intOf]; omega
    · have hd : decide ((j : Int) < (vs.length : Int)) = false := by simp; omega
      have QA := Lib.hid (show ∀ W, From wr W → RowC W w.heap.size 0 a.cells from fun W hC => RowC.of_blk (below_blk hC.below (HH.out.at (x := (w.heap.size, 29, a.cells.toArray)) (by simp)) (HH.out.at (x := (w.heap.size, 29, a.cells.toArray)) (by simp)).lt))
      have QB := Lib.hid (show ∀ W, From wr W → RowC W (w.heap.size + 1) 0 b.cells from fun W hC => RowC.of_blk (below_blk hC.below (HH.out.at (x := (w.heap.size + 1, 29, b.cells.toArray)) (by simp)) (HH.out.at (x := (w.heap.size + 1, 29, b.cells.toArray)) (by simp)).lt))
      have C1 := Lib.hid (show ∀ W, From wr W → Calls Try.prog 13 #[.agg a.cells.toArray, .bool base] W fun e w' => e = .returned (.int .i64 c) ∧ Below W.heap.size W w' from fun W hC => XF.out.2.1 ▸ HCK a base W (IA.out.on (HH.out.below.trans (hC.below.mono HH.out.below.size)) (Nat.le_refl _)) NA.out)
      have C2 := Lib.hid (show ∀ W, From wr W → Calls Try.prog 14 #[.agg a.cells.toArray, .bool base] W fun e w' => e = .returned (.int .i64 c) ∧ Below W.heap.size W w' from fun W hC => XF.out.2.1 ▸ rCheck_k a base W (IA.out.on (HH.out.below.trans (hC.below.mono HH.out.below.size)) (Nat.le_refl _)) NA.out)
      have F1 := Lib.hid (show ∀ W, From wr W → Calls Try.prog 15 #[.agg a.cells.toArray, .agg b.cells.toArray] W fun e w' => e = .returned (.bool f) ∧ Below W.heap.size W w' from fun W hC => XF.out.1 ▸ HFI a b W (IA.out.on (HH.out.below.trans (hC.below.mono HH.out.below.size)) (Nat.le_refl _)) (IB.out.on (HH.out.below.trans (hC.below.mono HH.out.below.size)) (Nat.le_refl _)) NA.out NB.out)
      have F2 := Lib.hid (show ∀ W, From wr W → Calls Try.prog 16 #[.agg a.cells.toArray, .agg b.cells.toArray] W fun e w' => e = .returned (.bool f) ∧ Below W.heap.size W w' from fun W hC => XF.out.1 ▸ rFight_k a b W (IA.out.on (HH.out.below.trans (hC.below.mono HH.out.below.size)) (Nat.le_refl _)) (IB.out.on (HH.out.below.trans (hC.below.mono HH.out.below.size)) (Nat.le_refl _)) (by have := NA.out.i; omega) (by have := NB.out.i; omega) (by have := NA.out.n; omega) (by have := NB.out.n; omega))
      have P1 := Lib.hid (show ∀ W, From wr W → Calls Try.prog 17 #[.slice a.Ai a.T.ins.length a.ci] W fun e w' => e = .returned (.bool p) ∧ Below W.heap.size W w' from fun W hC => XF.out.2.2 ▸ HPO a.Ai a.ci a.T.ins W (IA.out.on (HH.out.below.trans (hC.below.mono HH.out.below.size)) (Nat.le_refl _)).ins NA.out.i)
      have P2 := Lib.hid (show ∀ W, From wr W → Calls Try.prog 18 #[.slice a.Ai a.T.ins.length a.ci] W fun e w' => e = .returned (.bool p) ∧ Below W.heap.size W w' from fun W hC => XF.out.2.2 ▸ rPoints_k a.Ai a.ci a.T.ins W (IA.out.on (HH.out.below.trans (hC.below.mono HH.out.below.size)) (Nat.le_refl _)).ins (by have := NA.out.i; omega))
      have S1 := Lib.hid (fun W (h : From wr W) => TxA.c1 (QA.out W h))
      clear HCK HFI HPO
      go_wp2_with fail
      refine wp_region_from (by kernel_rfl) (by kernel_rfl) ?_
      repeat (first
        | go_big_quiet_skip
        | ((with_reducible refine at_qload 3 ?_); refine tyTx.wpQuiet_load (by rfl) (.tmp 3) rfl (w.heap.size) 0 rfl a (QA.out) ?_; simp only [Act.put, List.setIfInBounds_toArray, List.set_cons_succ, List.set_cons_zero])
        | ((with_reducible refine at_qload 4 ?_); refine tyTx.wpQuiet_load (by rfl) (.tmp 4) rfl (w.heap.size + 1) 0 rfl b (QB.out) ?_; simp only [Act.put, List.setIfInBounds_toArray, List.set_cons_succ, List.set_cons_zero])
        | ((with_reducible refine at_qload 62 ?_); refine wpQuiet_load_one (by rfl) 23 (.tmp 62) rfl ⟨w.heap.size, 1, none⟩ rfl (.slice a.Ai a.T.ins.length a.ci) Try.isAgg23 (S1.out) ?_; simp only [Act.put, List.setIfInBounds_toArray, List.set_cons_succ, List.set_cons_zero])
        | ((with_reducible refine at_qload 65 ?_); refine wpQuiet_load_one (by rfl) 23 (.tmp 65) rfl ⟨w.heap.size, 1, none⟩ rfl (.slice a.Ai a.T.ins.length a.ci) Try.isAgg23 (S1.out) ?_; simp only [Act.put, List.setIfInBounds_toArray, List.set_cons_succ, List.set_cons_zero])
        | (go_big_quiet_want; go_big_quiet_op; refine ⟨_, fun _ _ => by with_reducible rfl, ?_⟩; go_big_quiet_on)
        | go_big_quiet_step ((intro hC; first
            | (go_at_call 13; with_reducible exact (C1.out _ hC).mono fun _ _ h => ⟨h.1, hC.call h.2⟩)
            | (go_at_call 14; with_reducible exact (C2.out _ hC).mono fun _ _ h => ⟨h.1, hC.call h.2⟩)
            | (go_at_call 15; with_reducible exact (F1.out _ hC).mono fun _ _ h => ⟨h.1, hC.call h.2⟩)
            | (go_at_call 16; with_reducible exact (F2.out _ hC).mono fun _ _ h => ⟨h.1, hC.call h.2⟩)
            | (go_at_call 17; with_reducible exact (P1.out _ hC).mono fun _ _ h => ⟨h.1, hC.call h.2⟩)
            | (go_at_call 18; with_reducible exact (P2.out _ hC).mono fun _ _ h => ⟨h.1, hC.call h.2⟩))))
      refine wpQuiet_nil ?_
      intro w9 hC
      have B9 := Lib.hid (HH.out.below.trans (hC.below.mono HH.out.below.size))
      clear hC
      go_wp2_with fail
      go_ret
      exact ⟨by first | rfl | simp, B9.out⟩
theorem chTells_walk (HCK : ChkTOk) (HFI : FightOk) (HPO : PointsOk) (HVA : ValuesOk) (a b : TxA) (base : Bool) (w : World) (ha : a.In w w.heap.size) (hb : b.In w w.heap.size) :
    Calls Try.prog 3 #[.agg a.cells.toArray, .agg b.cells.toArray, .bool base] w fun e w' => e = .returned (.bool true) ∧ Below w.heap.size w w' := by
  cases hv : heavyF a.T with
  | true => exact chTells_h1 HCK HFI HPO HVA a b base w ha hb hv
  | false =>
    cases hu : heavyF b.T with
    | true => exact chTells_h2 HCK HFI HPO HVA a b base w ha hb hv hu
    | false => exact chTells_m HCK HFI HPO HVA a b base w ha hb hv hu
end Go.Proofs.Yticphjnabecanaa
