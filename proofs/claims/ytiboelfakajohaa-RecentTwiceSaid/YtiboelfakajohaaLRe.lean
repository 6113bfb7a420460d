/- RecentTwice. Written by genRcE.py. -/
import Derived.Test.YtiboelfakajohaaLRc
namespace Go.Proofs.Ytiboelfakajohaa
open Go.RowKit
theorem iyields_built {P : Program} {ops : Array Oper} {S : World → Prop} {a : Act} {o : Oper} (hw : Region.wanted o (yielded ops a.tmps) = true) (t : TypeId) (parts : Array (Nat × Operand)) (ho : o.op = .build t parts) (cells : Array Value)
    (hb : P.built t (parts.map fun (i, x) => (i, a.eval x)).toList = some cells) : YieldsIf P ops S o (.agg cells) a :=
  .inl ⟨hw, fun w _ => by
    unfold execOp
    simp only [ho, Sem.run_bind, run_build w t _ cells hb, Result.andThen_ok]
    rfl⟩
set_option maxRecDepth 20000 in
set_option maxHeartbeats 8000000 in
theorem rcTwice_h (HPU : RPutOk) (HHA : RHasOk) (A : Option Addr) (c : Nat) (l : List ItV) (id : K32) (a b : IntV .u64) (w : World) (hn : 200 < l.length) :
    Calls Try.prog 5 #[.slice A l.length c, .agg (encK id).toArray, .int .u64 a.1, .int .u64 b.1] w fun e w' => e = .returned (.bool true) ∧ Below w.heap.size w w' := by
  have SH := Lib.hid (fun W => ishown_any HPU HHA W)
  have H0 := Lib.hid (show Holds w [(w.heap.size, 24, (encK id).toArray)] (w.alloc (.cells (encK id).toArray 24)) from (Holds.nil w).box 24 (encK id).toArray)
  have hd : decide ((200 : Int) < (l.length : Int)) = true := by simp; omega
  clear HPU HHA hn
  go_enter Try.func5, Try.ntmps5
  go_wp2_with fail
  refine (SH.out _).mono ?_
  rintro e w1 ⟨rfl, b1⟩
  have H1 := Lib.hid (H0.out.call b1)
  clear b1
  go_wp2_with fail
  go_ret
  exact ⟨rfl, H1.out.below⟩
set_option maxRecDepth 20000 in
set_option maxHeartbeats 8000000 in
theorem rcTwice_m (HPU : RPutOk) (HHA : RHasOk) (HOL : ROldOk) (A : Option Addr) (c : Nat) (l : List ItV) (id : K32) (a b : IntV .u64) (w : World) (hl : RowIn (encKI .u64) 33 w w.heap.size A c l) (hn : l.length ≤ 200) :
    Calls Try.prog 5 #[.slice A l.length c, .agg (encK id).toArray, .int .u64 a.1, .int .u64 b.1] w fun e w' => e = .returned (.bool true) ∧ Below w.heap.size w w' := by
  have SH := Lib.hid (fun W => ishown_any HPU HHA W)
  have H0 := Lib.hid (show Holds w [(w.heap.size, 24, (encK id).toArray)] (w.alloc (.cells (encK id).toArray 24)) from (Holds.nil w).box 24 (encK id).toArray)
  have hd : decide ((200 : Int) < (l.length : Int)) = false := by simp; omega
  obtain ⟨P, hP⟩ : ∃ P, putI l id a = P := ⟨_, rfl⟩
  have hPL : P.length ≤ 5 := hP ▸ putI_len l id a
  obtain ⟨X, hX⟩ : ∃ X, putI P id b = X := ⟨_, rfl⟩
  have hXL : X.length ≤ 5 := hX ▸ putI_len P id b
  have hone : cntI X id X.length = 1 := hX ▸ put_once P id b
  obtain ⟨hk0, hlast⟩ : ∃ h : X.length - 1 < X.length, X[X.length - 1]'h = (id, b) := hX ▸ put_last P id b
  have hhas : hasI X id b.1 = true := hX ▸ put_has P id b
  have C1 := Lib.hid (fun W (h : RowIn (encKI .u64) 33 W W.heap.size A c l) => hP ▸ HPU A c l id a W h (by omega))
  have C2 := Lib.hid (fun A' c' W (h : RowIn (encKI .u64) 33 W W.heap.size A' c' P) => hX ▸ HPU A' c' P id b W h (by omega))
  have C3 := Lib.hid (fun A' c' W (h : RowIn (encKI .u64) 33 W W.heap.size A' c' X) => hhas ▸ HHA A' c' X id b W h (by omega))
  have C4 := Lib.hid (show ∀ W, Calls Try.prog 14 #[.slice none 0 0, .int .u64 a.1] W fun e w' => ∃ A' c', e = .returned (.slice A' 0 c') ∧ Below W.heap.size W w' from fun W => (HOL none 0 [] a W (RowIn.nil (Nat.zero_le _)) (by decide)).mono fun _ _ ⟨A', c', h1, _, h3⟩ => ⟨A', c', h1, h3⟩)
  have HLL := Lib.hid (show ∀ W, Below w.heap.size w W → RowIn (encKI .u64) 33 W W.heap.size A c l from fun W h => (hl.below h).more h.size)
  have HXL := Lib.hid (show X.length ≤ 5 ∧ cntI X id X.length = 1 ∧ ∃ h : X.length - 1 < X.length, X[X.length - 1]'h = (id, b) from ⟨hXL, hone, hk0, hlast⟩)
  clear HPU HHA HOL hl hn hP hX hPL hXL hone hk0 hlast hhas
  go_enter Try.func5, Try.ntmps5
  go_wp2_with fail
  refine (SH.out _).mono ?_
  rintro e w1 ⟨rfl, b1⟩
  have H1 := Lib.hid (H0.out.call b1)
  clear b1 H0
  go_wp2_with fail
  refine wp_region_held_drew (S := Holds w [(w.heap.size, 24, (encK id).toArray)]) (by kernel_rfl) (H1.out.call (Below.refl _ _).drew) ?_
  intro hS
  refine wpAnyH_take (i := 0) (v := .slice A l.length c) rfl (by kernel_rfl) (by kernel_rfl) (by kernel_rfl) (fun _ _ _ h => h) (Or.inl ⟨by rfl, fun W _ => by go_simp; try with_reducible rfl⟩) hS ?_
  simp only [Act.put, List.getElem_toArray, List.getElem_cons_zero, List.setIfInBounds_toArray, List.set_cons_succ, List.set_cons_zero]
  refine wpAnyH_take (i := 1) (v := .agg (encK id).toArray) rfl (by kernel_rfl) (by kernel_rfl) (by kernel_rfl) (fun _ _ _ h => h) (tyKc.yieldsIf_load (by rfl) (.tmp 5) rfl w.heap.size 0 rfl id (fun _ h => RowC.of_blk (h.at (x := (w.heap.size, 24, (encK id).toArray)) (by simp)))) hS ?_
  simp only [Act.put, List.getElem_toArray, List.getElem_cons_zero, List.getElem_cons_succ, List.setIfInBounds_toArray, List.set_cons_succ, List.set_cons_zero]
  refine wpAnyH_take (i := 2) (v := .int .u64 a.1) rfl (by kernel_rfl) (by kernel_rfl) (by kernel_rfl) (fun _ _ _ h => h) (Or.inl ⟨by rfl, fun W _ => by go_simp; try with_reducible rfl⟩) hS ?_
  simp only [Act.put, List.getElem_toArray, List.getElem_cons_zero, List.getElem_cons_succ, List.setIfInBounds_toArray, List.set_cons_succ, List.set_cons_zero]
  refine wpAnyH_take (i := 4) (v := .agg (encK id).toArray) rfl (by kernel_rfl) (by kernel_rfl) (by kernel_rfl) (fun _ _ _ h => h) (tyKc.yieldsIf_load (by rfl) (.tmp 5) rfl w.heap.size 0 rfl id (fun _ h => RowC.of_blk (h.at (x := (w.heap.size, 24, (encK id).toArray)) (by simp)))) hS ?_
  simp only [Act.put, List.getElem_toArray, List.getElem_cons_zero, List.getElem_cons_succ, List.setIfInBounds_toArray, List.set_cons_succ, List.set_cons_zero]
  refine wpAnyH_take (i := 5) (v := .int .u64 b.1) rfl (by kernel_rfl) (by kernel_rfl) (by kernel_rfl) (fun _ _ _ h => h) (Or.inl ⟨by rfl, fun W _ => by go_simp; try with_reducible rfl⟩) hS ?_
  simp only [Act.put, List.getElem_toArray, List.getElem_cons_zero, List.getElem_cons_succ, List.setIfInBounds_toArray, List.set_cons_succ, List.set_cons_zero]
  refine wpAnyH_ready (rs := [3]) (by kernel_rfl) (by simp) ?_
  refine AllReadyH.cons rfl (fun Kq hK => ?_) AllReadyH.nil
  go_simp
  with_reducible refine (C1.out _ (HLL.out _ hS.below)).mono ?_
  rintro e y3 ⟨A3, c3, rfl, rq, bq⟩
  have R3 := Lib.hid rq
  clear rq
  refine hK.out _ _ (hS.call bq) (fun hS => ?_)
  clear hK Kq bq
  try simp only [Act.put, List.getElem_toArray, List.getElem_cons_zero, List.getElem_cons_succ, List.setIfInBounds_toArray, List.set_cons_succ, List.set_cons_zero]
  refine wpAnyH_ready (rs := [6]) (by kernel_rfl) (by simp) ?_
  refine AllReadyH.cons rfl (fun Kq hK => ?_) AllReadyH.nil
  go_simp
  with_reducible refine (C2.out _ _ _ R3.out).mono ?_
  rintro e y6 ⟨A4, c4, rfl, rq, bq⟩
  have R4 := Lib.hid rq
  clear rq R3
  refine hK.out _ _ (hS.call bq) (fun hS => ?_)
  clear hK Kq bq
  try simp only [Act.put, List.getElem_toArray, List.getElem_cons_zero, List.getElem_cons_succ, List.setIfInBounds_toArray, List.set_cons_succ, List.set_cons_zero]
  refine wpAnyH_ready (rs := [7]) (by kernel_rfl) (by simp) ?_
  refine AllReadyH.cons rfl (fun Kq hK => ?_) AllReadyH.nil
  go_simp
  refine hK.out _ _ hS (fun hS => ?_)
  clear hK Kq
  refine wpAnyH_done (by kernel_rfl) ?_ _
  have H4 := Lib.hid hS
  clear hS H1
  have hXL2 : X.length ≤ 5 := HXL.out.1
  have Z0 : ((cntI X id 0 : Nat) : Int) = 0 := rfl
  go_wp2_with fail
  go_loopw [10, 11] (fun sn si wr => ∃ j : Nat, si = .int .i64 j ∧ sn = .int .i64 (cntI X id j : Nat) ∧ j ≤ X.length ∧ Hid (Holds w [(w.heap.size, 24, (encK id).toArray)] wr) ∧ Hid (RowIn (encKI .u64) 33 wr wr.heap.size A4 c4 X)) (fun _ si _ => X.length - (intOf si).toNat)
  case atStart => exact ⟨0, rfl, rfl, Nat.zero_le _, H4, R4⟩
  case round =>
    clear H4 R4 Z0
    obtain ⟨j, rfl, rfl, hj, HH, RR⟩ := hrel
    by_cases hlt : j < X.length
    · have hd : decide ((j : Int) < (X.length : Int)) = true := by simp; omega
      have hi0 : (0 : Int) ≤ (j : Int) := by omega
      have hi1 : (j : Int) < (X.length : Int) := by omega
      obtain ⟨g, o, hA, hg, hc⟩ := RR.out.at (encKI_len .u64) hlt
      have hcn := cntI_next X id j hlt
      have hcl := cntI_le X id j
      obtain ⟨x, hx⟩ : ∃ x, X[j]'hlt = x := ⟨_, rfl⟩
      rw [hx] at hc hcn
      subst hA
      have D1 := Lib.hid (show ∀ W, From wr W → RowC W g (o + j * 33) ((encKI .u64) x) from fun W hC => hc.below hC.below hg)
      have D2 := Lib.hid (show ∀ W, From wr W → RowC W w.heap.size 0 (encK id) from fun W hC => RowC.of_blk (below_blk hC.below (HH.out.at (x := (w.heap.size, 24, (encK id).toArray)) (by simp)) (HH.out.lt (x := (w.heap.size, 24, (encK id).toArray)) (by simp))))
      have HJ := Lib.hid (show j + 1 ≤ X.length from hlt)
      obtain ⟨m, hm⟩ : ∃ m, cntI X id j = m := ⟨_, rfl⟩
      rw [hm] at hcn hcl ⊢
      have hmb : (m : Int) ≤ 5 := by omega
      obtain ⟨q, hq⟩ : ∃ q, decide (x.1 = id) = q := ⟨_, rfl⟩
      have HQ := Lib.hid hq
      rw [hq] at hcn
      clear hx hc hg hlt hq hm hcl
      cases q with
      | true =>
        have HC := Lib.hid (show cntI X id (j + 1) = m + 1 by simpa using hcn)
        clear hcn
        go_wp2_with fail
        refine wp_region_from (by kernel_rfl) (by kernel_rfl) ?_
        repeat (first
          | go_big_quiet_skip
          | ((with_reducible refine at_qload 36 ?_); refine tyKc.wpQuiet_load (by rfl) (.tmp 36) rfl (g) (o + j * 33) rfl (x.1) (fun W hC => (D1.out W hC).ki_key) ?_; simp only [Act.put, List.setIfInBounds_toArray, List.set_cons_succ, List.set_cons_zero])
          | ((with_reducible refine at_qload 5 ?_); refine tyKc.wpQuiet_load (by rfl) (.tmp 5) rfl (w.heap.size) (0) rfl (id) (fun W hC => D2.out W hC) ?_; simp only [Act.put, List.setIfInBounds_toArray, List.set_cons_succ, List.set_cons_zero])
          | ((with_reducible refine at_qeql 37 38 ?_); refine wpQuiet_eql_row (by rfl) 24 24 (.tmp 37) (.tmp 38) rfl (encK x.1).toArray (encK id).toArray rfl rfl (by kernel_rfl) true (fun V => (eqKy_run _ _ V).trans (by rw [HQ.out])) ?_; simp only [Act.put, List.setIfInBounds_toArray, List.set_cons_succ, List.set_cons_zero])
          | (go_big_quiet_want; go_big_quiet_op; refine ⟨_, fun _ _ => by with_reducible rfl, ?_⟩; go_big_quiet_on)
          | go_big_quiet_step (fail))
        refine wpQuiet_nil ?_
        intro w9 hC
        have H9 := Lib.hid (HH.out.call hC.below)
        have R9 := Lib.hid ((RR.out.below hC.below).more hC.below.size)
        clear hC D1 D2 HH RR
        go_wp2_with fail
        go_roundw
        case rel => exact ⟨j + 1, by go_num, by rw [HC.out]; go_num, HJ.out, H9, R9⟩
        case measure => have := HJ.out; simp [intOf]; omega
      | false =>
        have HC := Lib.hid (show cntI X id (j + 1) = m by simpa using hcn)
        clear hcn
        go_wp2_with fail
        refine wp_region_from (by kernel_rfl) (by kernel_rfl) ?_
        repeat (first
          | go_big_quiet_skip
          | ((with_reducible refine at_qload 36 ?_); refine tyKc.wpQuiet_load (by rfl) (.tmp 36) rfl (g) (o + j * 33) rfl (x.1) (fun W hC => (D1.out W hC).ki_key) ?_; simp only [Act.put, List.setIfInBounds_toArray, List.set_cons_succ, List.set_cons_zero])
          | ((with_reducible refine at_qload 5 ?_); refine tyKc.wpQuiet_load (by rfl) (.tmp 5) rfl (w.heap.size) (0) rfl (id) (fun W hC => D2.out W hC) ?_; simp only [Act.put, List.setIfInBounds_toArray, List.set_cons_succ, List.set_cons_zero])
          | ((with_reducible refine at_qeql 37 38 ?_); refine wpQuiet_eql_row (by rfl) 24 24 (.tmp 37) (.tmp 38) rfl (encK x.1).toArray (encK id).toArray rfl rfl (by kernel_rfl) false (fun V => (eqKy_run _ _ V).trans (by rw [HQ.out])) ?_; simp only [Act.put, List.setIfInBounds_toArray, List.set_cons_succ, List.set_cons_zero])
          | (go_big_quiet_want; go_big_quiet_op; refine ⟨_, fun _ _ => by with_reducible rfl, ?_⟩; go_big_quiet_on)
          | go_big_quiet_step (fail))
        refine wpQuiet_nil ?_
        intro w9 hC
        have H9 := Lib.hid (HH.out.call hC.below)
        have R9 := Lib.hid ((RR.out.below hC.below).more hC.below.size)
        clear hC D1 D2 HH RR
        go_wp2_with fail
        go_roundw
        case rel => exact ⟨j + 1, by go_num, by rw [HC.out], HJ.out, H9, R9⟩
        case measure => have := HJ.out; simp [intOf]; omega
    · have hd : decide ((j : Int) < (X.length : Int)) = false := by simp; omega
      obtain rfl : j = X.length := by omega
      rw [HXL.out.2.1]
      obtain ⟨hk0, hlast⟩ := HXL.out.2.2
      obtain ⟨g, o, hA, hg, hc⟩ := RR.out.at (encKI_len .u64) hk0
      rw [hlast] at hc
      subst hA
      obtain ⟨m, hm⟩ : ∃ m, X.length = m := ⟨_, rfl⟩
      rw [hm] at hc hk0 hd hXL2 ⊢
      obtain ⟨k, hk⟩ : ∃ k, m - 1 = k := ⟨_, rfl⟩
      rw [hk] at hc
      have C3m := Lib.hid (show ∀ A' c' W, RowIn (encKI .u64) 33 W W.heap.size A' c' X → Calls Try.prog 12 #[.slice A' m c', .agg (encK id).toArray, .int .u64 b.1] W fun e w' => e = .returned (.bool true) ∧ Below W.heap.size W w' from fun A' c' W h => by have h6 := C3.out A' c' W h; rw [hm] at h6; exact h6)
      have hw1 : IntKind.i64.wrap ((m : Int) - 1) = (k : Int) := by rw [IntKind.wrap_i64]; omega
      have hi0 : (0 : Int) ≤ (k : Int) := by omega
      have hi1 : (k : Int) < (m : Int) := by omega
      have hm5 : decide ((m : Int) ≤ 5) = true := by simp; omega
      have HC := Lib.hid (And.intro hg hc)
      clear hlast hk0 hg hc hj hlt hm hk
      go_wp2_with fail
      refine wp_region_held_drew (S := (fun V => Holds w [(w.heap.size, 24, (encK id).toArray)] V ∧ Below wr.heap.size wr V)) (by kernel_rfl) ⟨HH.out.call (Below.refl _ _).drew, (Below.refl _ _).drew⟩ ?_
      intro hS
      refine wpAnyH_take (i := 0) (v := .int .i64 1) rfl (by kernel_rfl) (by kernel_rfl) (by kernel_rfl) (fun _ _ _ h => h) (Or.inl ⟨by rfl, fun W _ => by go_simp; try with_reducible rfl⟩) hS ?_
      simp only [Act.put, List.getElem_toArray, List.getElem_cons_zero, List.setIfInBounds_toArray, List.set_cons_succ, List.set_cons_zero]
      refine wpAnyH_take (i := 1) (v := .bool true) rfl (by kernel_rfl) (by kernel_rfl) (by kernel_rfl) (fun _ _ _ h => h) (Or.inl ⟨by rfl, fun W _ => by go_simp; try with_reducible rfl⟩) hS ?_
      simp only [Act.put, List.getElem_toArray, List.getElem_cons_zero, List.getElem_cons_succ, List.setIfInBounds_toArray, List.set_cons_succ, List.set_cons_zero]
      refine wpAnyH_take (i := 2) (v := .bool true) rfl (by kernel_rfl) (by kernel_rfl) (by kernel_rfl) (fun _ _ _ h => h) (Or.inl ⟨by rfl, fun W _ => by go_simp; try with_reducible rfl⟩) hS ?_
      simp only [Act.put, List.getElem_toArray, List.getElem_cons_zero, List.getElem_cons_succ, List.setIfInBounds_toArray, List.set_cons_succ, List.set_cons_zero]
      refine wpAnyH_take (i := 3) (v := .slice (some ⟨g, o, none⟩) m c4) rfl (by kernel_rfl) (by kernel_rfl) (by kernel_rfl) (fun _ _ _ h => h) (Or.inl ⟨by rfl, fun W _ => by go_simp; try with_reducible rfl⟩) hS ?_
      simp only [Act.put, List.getElem_toArray, List.getElem_cons_zero, List.getElem_cons_succ, List.setIfInBounds_toArray, List.set_cons_succ, List.set_cons_zero]
      refine wpAnyH_take (i := 4) (v := .slice (some ⟨g, o, none⟩) m c4) rfl (by kernel_rfl) (by kernel_rfl) (by kernel_rfl) (fun _ _ _ h => h) (Or.inl ⟨by rfl, fun W _ => by go_simp; try with_reducible rfl⟩) hS ?_
      simp only [Act.put, List.getElem_toArray, List.getElem_cons_zero, List.getElem_cons_succ, List.setIfInBounds_toArray, List.set_cons_succ, List.set_cons_zero]
      refine wpAnyH_take (i := 5) (v := .int .i64 (m : Int)) rfl (by kernel_rfl) (by kernel_rfl) (by kernel_rfl) (fun _ _ _ h => h) (Or.inl ⟨by rfl, fun W _ => by go_simp; try with_reducible rfl⟩) hS ?_
      simp only [Act.put, List.getElem_toArray, List.getElem_cons_zero, List.getElem_cons_succ, List.setIfInBounds_toArray, List.set_cons_succ, List.set_cons_zero]
      refine wpAnyH_take (i := 6) (v := .int .i64 (k : Int)) rfl (by kernel_rfl) (by kernel_rfl) (by kernel_rfl) (fun _ _ _ h => h) (Or.inl ⟨by rfl, fun W _ => by go_simp; try with_reducible rfl⟩) hS ?_
      simp only [Act.put, List.getElem_toArray, List.getElem_cons_zero, List.getElem_cons_succ, List.setIfInBounds_toArray, List.set_cons_succ, List.set_cons_zero]
      refine wpAnyH_take (i := 7) (v := .pointer (some ⟨g, o + k * 33, none⟩)) rfl (by kernel_rfl) (by kernel_rfl) (by kernel_rfl) (fun _ _ _ h => h) (Or.inl ⟨by rfl, fun W _ => by go_simp; try with_reducible rfl⟩) hS ?_
      simp only [Act.put, List.getElem_toArray, List.getElem_cons_zero, List.getElem_cons_succ, List.setIfInBounds_toArray, List.set_cons_succ, List.set_cons_zero]
      refine wpAnyH_take (i := 8) (v := .agg ((encKI .u64) (id, b)).toArray) rfl (by kernel_rfl) (by kernel_rfl) (by kernel_rfl) (fun _ _ _ h => h) (tyItc.yieldsIf_load (by rfl) (.tmp 49) rfl g (o + k * 33) rfl (id, b) (fun _ h => HC.out.2.below h.2 HC.out.1)) hS ?_
      simp only [Act.put, List.getElem_toArray, List.getElem_cons_zero, List.getElem_cons_succ, List.setIfInBounds_toArray, List.set_cons_succ, List.set_cons_zero]
      refine wpAnyH_take (i := 9) (v := .agg (encK id).toArray) rfl (by kernel_rfl) (by kernel_rfl) (by kernel_rfl) (fun _ _ _ h => h) (tyKc.yieldsIf_load (by rfl) (.tmp 5) rfl w.heap.size 0 rfl id (fun _ h => RowC.of_blk (h.1.at (x := (w.heap.size, 24, (encK id).toArray)) (by simp)))) hS ?_
      simp only [Act.put, List.getElem_toArray, List.getElem_cons_zero, List.getElem_cons_succ, List.setIfInBounds_toArray, List.set_cons_succ, List.set_cons_zero]
      refine wpAnyH_take (i := 10) (v := .int .u64 b.1) rfl (by kernel_rfl) (by kernel_rfl) (by kernel_rfl) (fun _ _ _ h => h) (Or.inl ⟨by rfl, fun W _ => by go_simp; try with_reducible rfl⟩) hS ?_
      simp only [Act.put, List.getElem_toArray, List.getElem_cons_zero, List.getElem_cons_succ, List.setIfInBounds_toArray, List.set_cons_succ, List.set_cons_zero]
      refine wpAnyH_take (i := 11) (v := .agg ((encKI .u64) (id, b)).toArray) rfl (by kernel_rfl) (by kernel_rfl) (by kernel_rfl) (fun _ _ _ h => h) (iyields_built (by rfl) 40 #[(0, .tmp 51), (1, .tmp 52)] rfl _ ((show _ = Try.prog.built 40 [(0, Value.agg (encK id).toArray), (1, Value.int .u64 b.1)] from congrArg (Try.prog.built 40) (by kernel_rfl)).trans (ibuilt _ (.inr rfl) id b))) hS ?_
      simp only [Act.put, List.getElem_toArray, List.getElem_cons_zero, List.getElem_cons_succ, List.setIfInBounds_toArray, List.set_cons_succ, List.set_cons_zero]
      refine wpAnyH_take (i := 12) (v := .bool true) rfl (by kernel_rfl) (by kernel_rfl) (by kernel_rfl) (fun _ _ _ h => h) (yieldsIf_eql_row (by rfl) 40 40 (.tmp 50) (.tmp 53) rfl ((encKI .u64) (id, b)).toArray ((encKI .u64) (id, b)).toArray rfl rfl (by kernel_rfl) true (fun V => (eqIt_run _ _ V).trans (by simp))) hS ?_
      simp only [Act.put, List.getElem_toArray, List.getElem_cons_zero, List.getElem_cons_succ, List.setIfInBounds_toArray, List.set_cons_succ, List.set_cons_zero]
      refine wpAnyH_take (i := 13) (v := .bool true) rfl (by kernel_rfl) (by kernel_rfl) (by kernel_rfl) (fun _ _ _ h => h) (Or.inl ⟨by rfl, fun W _ => by go_simp; try with_reducible rfl⟩) hS ?_
      simp only [Act.put, List.getElem_toArray, List.getElem_cons_zero, List.getElem_cons_succ, List.setIfInBounds_toArray, List.set_cons_succ, List.set_cons_zero]
      refine wpAnyH_take (i := 14) (v := .bool true) rfl (by kernel_rfl) (by kernel_rfl) (by kernel_rfl) (fun _ _ _ h => h) (Or.inl ⟨by rfl, fun W _ => by go_simp; try with_reducible rfl⟩) hS ?_
      simp only [Act.put, List.getElem_toArray, List.getElem_cons_zero, List.getElem_cons_succ, List.setIfInBounds_toArray, List.set_cons_succ, List.set_cons_zero]
      refine wpAnyH_take (i := 15) (v := .slice (some ⟨g, o, none⟩) m c4) rfl (by kernel_rfl) (by kernel_rfl) (by kernel_rfl) (fun _ _ _ h => h) (Or.inl ⟨by rfl, fun W _ => by go_simp; try with_reducible rfl⟩) hS ?_
      simp only [Act.put, List.getElem_toArray, List.getElem_cons_zero, List.getElem_cons_succ, List.setIfInBounds_toArray, List.set_cons_succ, List.set_cons_zero]
      refine wpAnyH_take (i := 16) (v := .int .i64 (m : Int)) rfl (by kernel_rfl) (by kernel_rfl) (by kernel_rfl) (fun _ _ _ h => h) (Or.inl ⟨by rfl, fun W _ => by go_simp; try with_reducible rfl⟩) hS ?_
      simp only [Act.put, List.getElem_toArray, List.getElem_cons_zero, List.getElem_cons_succ, List.setIfInBounds_toArray, List.set_cons_succ, List.set_cons_zero]
      refine wpAnyH_take (i := 17) (v := .bool true) rfl (by kernel_rfl) (by kernel_rfl) (by kernel_rfl) (fun _ _ _ h => h) (Or.inl ⟨by rfl, fun W _ => by go_simp; try with_reducible rfl⟩) hS ?_
      simp only [Act.put, List.getElem_toArray, List.getElem_cons_zero, List.getElem_cons_succ, List.setIfInBounds_toArray, List.set_cons_succ, List.set_cons_zero]
      refine wpAnyH_take (i := 18) (v := .bool true) rfl (by kernel_rfl) (by kernel_rfl) (by kernel_rfl) (fun _ _ _ h => h) (Or.inl ⟨by rfl, fun W _ => by go_simp; try with_reducible rfl⟩) hS ?_
      simp only [Act.put, List.getElem_toArray, List.getElem_cons_zero, List.getElem_cons_succ, List.setIfInBounds_toArray, List.set_cons_succ, List.set_cons_zero]
      refine wpAnyH_take (i := 19) (v := .bool true) rfl (by kernel_rfl) (by kernel_rfl) (by kernel_rfl) (fun _ _ _ h => h) (Or.inl ⟨by rfl, fun W _ => by go_simp; try with_reducible rfl⟩) hS ?_
      simp only [Act.put, List.getElem_toArray, List.getElem_cons_zero, List.getElem_cons_succ, List.setIfInBounds_toArray, List.set_cons_succ, List.set_cons_zero]
      refine wpAnyH_take (i := 20) (v := .slice (some ⟨g, o, none⟩) m c4) rfl (by kernel_rfl) (by kernel_rfl) (by kernel_rfl) (fun _ _ _ h => h) (Or.inl ⟨by rfl, fun W _ => by go_simp; try with_reducible rfl⟩) hS ?_
      simp only [Act.put, List.getElem_toArray, List.getElem_cons_zero, List.getElem_cons_succ, List.setIfInBounds_toArray, List.set_cons_succ, List.set_cons_zero]
      refine wpAnyH_take (i := 21) (v := .agg (encK id).toArray) rfl (by kernel_rfl) (by kernel_rfl) (by kernel_rfl) (fun _ _ _ h => h) (tyKc.yieldsIf_load (by rfl) (.tmp 5) rfl w.heap.size 0 rfl id (fun _ h => RowC.of_blk (h.1.at (x := (w.heap.size, 24, (encK id).toArray)) (by simp)))) hS ?_
      simp only [Act.put, List.getElem_toArray, List.getElem_cons_zero, List.getElem_cons_succ, List.setIfInBounds_toArray, List.set_cons_succ, List.set_cons_zero]
      refine wpAnyH_take (i := 22) (v := .int .u64 b.1) rfl (by kernel_rfl) (by kernel_rfl) (by kernel_rfl) (fun _ _ _ h => h) (Or.inl ⟨by rfl, fun W _ => by go_simp; try with_reducible rfl⟩) hS ?_
      simp only [Act.put, List.getElem_toArray, List.getElem_cons_zero, List.getElem_cons_succ, List.setIfInBounds_toArray, List.set_cons_succ, List.set_cons_zero]
      refine wpAnyH_ready (rs := [23]) (by kernel_rfl) (by simp) ?_
      refine AllReadyH.cons rfl (fun Kq hK => ?_) AllReadyH.nil
      go_simp
      with_reducible refine (C3m.out _ _ _ ((RR.out.below hS.2).more hS.2.size)).mono ?_
      rintro e y23 ⟨rfl, bq⟩
      refine hK.out _ _ ⟨hS.1.call bq, hS.2.trans (bq.mono hS.2.size)⟩ (fun hS => ?_)
      clear hK Kq bq
      try simp only [Act.put, List.getElem_toArray, List.getElem_cons_zero, List.getElem_cons_succ, List.setIfInBounds_toArray, List.set_cons_succ, List.set_cons_zero]
      refine wpAnyH_take (i := 24) (v := .bool true) rfl (by kernel_rfl) (by kernel_rfl) (by kernel_rfl) (fun _ _ _ h => h) (Or.inl ⟨by rfl, fun W _ => by go_simp; try with_reducible rfl⟩) hS ?_
      simp only [Act.put, List.getElem_toArray, List.getElem_cons_zero, List.getElem_cons_succ, List.setIfInBounds_toArray, List.set_cons_succ, List.set_cons_zero]
      refine wpAnyH_take (i := 25) (v := .bool true) rfl (by kernel_rfl) (by kernel_rfl) (by kernel_rfl) (fun _ _ _ h => h) (Or.inl ⟨by rfl, fun W _ => by go_simp; try with_reducible rfl⟩) hS ?_
      simp only [Act.put, List.getElem_toArray, List.getElem_cons_zero, List.getElem_cons_succ, List.setIfInBounds_toArray, List.set_cons_succ, List.set_cons_zero]
      refine wpAnyH_take (i := 26) (v := .int .u64 a.1) rfl (by kernel_rfl) (by kernel_rfl) (by kernel_rfl) (fun _ _ _ h => h) (Or.inl ⟨by rfl, fun W _ => by go_simp; try with_reducible rfl⟩) hS ?_
      simp only [Act.put, List.getElem_toArray, List.getElem_cons_zero, List.getElem_cons_succ, List.setIfInBounds_toArray, List.set_cons_succ, List.set_cons_zero]
      refine wpAnyH_ready (rs := [27]) (by kernel_rfl) (by simp) ?_
      refine AllReadyH.cons rfl (fun Kq hK => ?_) AllReadyH.nil
      go_simp
      with_reducible refine (C4.out _).mono ?_
      rintro e y27 ⟨A9, c9, rfl, bq⟩
      refine hK.out _ _ ⟨hS.1.call bq, hS.2.trans (bq.mono hS.2.size)⟩ (fun hS => ?_)
      clear hK Kq bq
      try simp only [Act.put, List.getElem_toArray, List.getElem_cons_zero, List.getElem_cons_succ, List.setIfInBounds_toArray, List.set_cons_succ, List.set_cons_zero]
      refine wpAnyH_take (i := 28) (v := .int .i64 0) rfl (by kernel_rfl) (by kernel_rfl) (by kernel_rfl) (fun _ _ _ h => h) (Or.inl ⟨by rfl, fun W _ => by go_simp; try with_reducible rfl⟩) hS ?_
      simp only [Act.put, List.getElem_toArray, List.getElem_cons_zero, List.getElem_cons_succ, List.setIfInBounds_toArray, List.set_cons_succ, List.set_cons_zero]
      refine wpAnyH_take (i := 29) (v := .bool true) rfl (by kernel_rfl) (by kernel_rfl) (by kernel_rfl) (fun _ _ _ h => h) (Or.inl ⟨by rfl, fun W _ => by go_simp; try with_reducible rfl⟩) hS ?_
      simp only [Act.put, List.getElem_toArray, List.getElem_cons_zero, List.getElem_cons_succ, List.setIfInBounds_toArray, List.set_cons_succ, List.set_cons_zero]
      refine wpAnyH_take (i := 30) (v := .bool true) rfl (by kernel_rfl) (by kernel_rfl) (by kernel_rfl) (fun _ _ _ h => h) (Or.inl ⟨by rfl, fun W _ => by go_simp; try with_reducible rfl⟩) hS ?_
      simp only [Act.put, List.getElem_toArray, List.getElem_cons_zero, List.getElem_cons_succ, List.setIfInBounds_toArray, List.set_cons_succ, List.set_cons_zero]
      refine wpAnyH_ready (rs := [31]) (by kernel_rfl) (by simp) ?_
      refine AllReadyH.cons rfl (fun Kq hK => ?_) AllReadyH.nil
      go_simp
      refine hK.out _ _ hS (fun hS => ?_)
      clear hK Kq
      refine wpAnyH_done (by kernel_rfl) ?_ _
      have B9 := Lib.hid hS.1.below
      clear hS
      go_wp2_with fail
      go_ret
      exact ⟨by first | rfl | simp, B9.out⟩
set_option maxRecDepth 20000 in
set_option maxHeartbeats 8000000 in
theorem rcTwice_walk (HPU : RPutOk) (HHA : RHasOk) (HOL : ROldOk) (A : Option Addr) (c : Nat) (l : List ItV) (id : K32) (a b : IntV .u64) (w : World) (hl : RowIn (encKI .u64) 33 w w.heap.size A c l) :
    Calls Try.prog 5 #[.slice A l.length c, .agg (encK id).toArray, .int .u64 a.1, .int .u64 b.1] w fun e w' => e = .returned (.bool true) ∧ Below w.heap.size w w' := by
  by_cases h : 200 < l.length
  · exact rcTwice_h HPU HHA A c l id a b w h
  · exact rcTwice_m HPU HHA HOL A c l id a b w hl (by omega)
end Go.Proofs.Ytiboelfakajohaa
