/- The project's points: how often each one is there (a map), Points, meet. Written by genChM.py. -/
import Derived.Test.YticphjnabecanaaTxAllC
import Derived.Test.YticphjnabecanaaCellB
import Derived.Test.YticphjnabecanaaMapC
namespace Go.Proofs.Yticphjnabecanaa
open Go.RowKit
abbrev PtM := K32 × IntV .u32
theorem run_checkKey_KI {P : Program} {w : World} {t tk ti e : TypeId} {f0 f1 : Field} {q : IntKind} (hs : P.underlying t = some (.struct #[f0, f1])) (n0 : f0.name ≠ "_") (n1 : f1.name ≠ "_") (o0 : f0.offset = 0) (o1 : f1.offset = 32) (t0 : f0.type = tk) (t1 : f1.type = ti)
    (hk : P.underlying tk = some (.array 32 e)) (he : P.underlying e = some (.int .u8)) (hc : P.cellsOf e = 1) (hct : P.cellsOf tk = 32) (hi : P.underlying ti = some (.int q)) (em : Bool) (x : K32 × IntV q) :
    (Instr.checkKey em 10000 t (.agg (encKI q x).toArray)).run P w = .ok () w := by
  have e1 : (Instr.checkKey em 9999 tk (.agg (bytesA x.1.1))).run P w = .ok () w := run_checkKey_bytes_d 9997 hk he hc em x.1
  have e2 : (Instr.checkKey em 9999 ti (.int q x.2.1)).run P w = .ok () w := by
    rw [show 9999 = 9998 + 1 from rfl, Instr.checkKey]
    simp [run_underlying hi]
  have px : (part tk (encKI q x).toArray 0).run P w = .ok (.agg (bytesA x.1.1)) w := by rw [run_part_key w hk hct, ki_key]
  have qx := run_part_int w hi (encKI q x).toArray 32 _ (ki_int x)
  subst t0 t1
  rw [show 10000 = 9999 + 1 from rfl, Instr.checkKey]
  simp [run_underlying hs, n0, n1, o0, o1, px, qx, e1, e2, Result.andThen]
theorem keyPt : KeyTy Try.prog 40 (α := PtM) (encKI .u32) where
  desc := ⟨_, show Try.prog.underlying 40 = some (.struct #[(Try.prog.fieldsOf 40)[0]!, (Try.prog.fieldsOf 40)[1]!]) by kernel_rfl⟩
  check em x w := run_checkKey_KI (f0 := (Try.prog.fieldsOf 40)[0]!) (f1 := (Try.prog.fieldsOf 40)[1]!) (by kernel_rfl) (by decide +kernel) (by decide +kernel) (by kernel_rfl) (by kernel_rfl) (by kernel_rfl) (by kernel_rfl) Try.underlying26 Try.underlying5 (by kernel_rfl) (by kernel_rfl) Try.underlying22 em x
  ask x y w := eqPt_run x y w
  bits x v hv := by
    rcases List.mem_append.1 hv with h | h
    · simp only [encK, bytesA, List.mem_map] at h
      obtain ⟨_, _, rfl⟩ := h
      simp [Instr.sameBits]
    · rw [List.mem_singleton.1 h]; simp [Instr.sameBits]
theorem chPt : CellTy Try.prog 40 (encKI .u32) 33 := ⟨tyPt.size, tyPt.len, tyPt.one, tyPt.agg⟩
theorem zeroI (w : World) : (zeroValue 3).run Try.prog w = .ok (.int .i64 0) w := zeroV_of (by kernel_rfl) w
theorem mapPt : Try.prog.underlying 59 = some (.map 40 3) := Try.underlying59
set_option maxRecDepth 20000 in
set_option maxHeartbeats 4000000 in
theorem times_any (A : Option Addr) (c : Nat) (l : List PtM) (w : World) (hl : RowIn (encKI .u32) 33 w w.heap.size A c l) (hn : l.length ≤ 1000) :
    Calls Try.prog 29 #[.slice A l.length c] w fun e w' => ∃ b m, e = .returned (.map (some b)) ∧ w.heap.size ≤ b ∧ MapC (encKI .u32) w' b m ∧ CntC m (l.foldl insC []) l.length ∧ Below w.heap.size w w' := by
  have HL := Lib.hid hl
  have HN := Lib.hid hn
  have hmm := @run_makeMap Try.prog
  have M0 := Lib.hid (MapC.new (enc := (encKI .u32 : PtM → List Value)) w)
  have B0 := Lib.hid ((Below.refl w.heap.size w).alloc (Nat.le_refl _) (.map #[] 0))
  have C0 := Lib.hid (show CntC ([] : List (PtM × Int)) ((l.take 0).foldl insC []) 0 from ⟨rfl, by simp⟩)
  have HB := Lib.hid (Nat.le_refl w.heap.size)
  have hm0 : l.length ≤ 9223372036854775807 := by omega
  clear hl hn
  go_enter Try.func29, Try.ntmps29
  go_wp2_with fail
  go_loopw [9] (fun si wr => ∃ (j : Nat) (m : List (PtM × Int)), si = .int .i64 j ∧ j ≤ l.length ∧ Hid (MapC (encKI .u32) wr w.heap.size m) ∧ Hid (CntC m ((l.take j).foldl insC []) j) ∧ Hid (Below w.heap.size w wr)) (fun si _ => l.length - (intOf si).toNat)
  case atStart => exact ⟨0, [], rfl, Nat.zero_le _, M0, C0, B0⟩
  case round =>
    clear M0 B0 C0
    obtain ⟨j, m, rfl, hj, MM, CC, BB⟩ := hrel
    by_cases hlt : j < l.length
    · have hd : decide ((j : Int) < (l.length : Int)) = true := by simp; omega
      have hi0 : (0 : Int) ≤ (j : Int) := by omega
      have hi1 : (j : Int) < (l.length : Int) := by omega
      obtain ⟨g, o, hA, hg, hc⟩ := (HL.out.below BB.out).at (encKI_len _) hlt
      have CU := Lib.hid (CC.out.up l[j])
      rw [← foldC_take l j hlt] at CU
      obtain ⟨x, hx⟩ : ∃ x, l[j]'hlt = x := ⟨_, rfl⟩
      rw [hx] at hc CU
      have HX := Lib.hid hc
      have HJ := Lib.hid (show j + 1 ≤ l.length from hlt)
      obtain ⟨n, hcn⟩ : ∃ n, cntC x m = n := ⟨_, rfl⟩
      have CN := Lib.hid hcn
      have HW := Lib.hid (show IntKind.i64.wrap (n + 1) = n + 1 by have h1 := cntC_le CC.out x; have h2 := HN.out; rw [hcn] at h1; rw [IntKind.wrap_i64]; omega)
      have GET := Lib.hid (wthC_get x m)
      rw [hcn] at CU
      subst hA
      clear hc hx hg hcn CC
      go_wp2_with (first
        | ((with_reducible refine at_load 11 ?_); refine tyPt.wpList_load rfl (.tmp 11) rfl g (o + j * 33) rfl x HX.out ?_)
        | ((with_reducible refine at_store 5 12 ?_); refine chPt.wpList_store rfl (.tmp 5) (.tmp 12) rfl rfl wr.heap.size x rfl rfl 40 _ (Blk.new wr 40 _) rfl ?_; intro w2 o2 b2
           have BE := ((Below.refl wr.heap.size wr).alloc (Nat.le_refl _) _).trans (o2.below (by simp))
           have XB := Lib.hid b2
           have M2 := Lib.hid (MM.out.below BE MM.out.lt)
           have B2 := Lib.hid (BB.out.trans (BE.mono BB.out.size))
           clear o2 b2 BE MM BB
           have MM := M2
           have BB := B2
           clear M2 B2))
      have XB2 := Lib.hid (show Blk w2.drew wr.heap.size 40 _ from XB.out)
      have M2 := Lib.hid (MM.out.drew)
      have B2 := Lib.hid (BB.out.trans (Below.refl _ _).drew)
      clear XB MM BB
      have XB := XB2
      have MM := M2
      have BB := B2
      clear XB2 M2 B2
      refine wp_region_held_drew (S := fun V => RowC V wr.heap.size 0 (encKI .u32 x)) (by kernel_rfl) (RowC.of_blk XB.out) ?_
      intro hS
      generalize w2.drew = wd at XB MM BB hS ⊢
      refine wpAnyH_take (i := 0) (v := .map (some w.heap.size)) rfl (by kernel_rfl) (by kernel_rfl) (by kernel_rfl) (fun _ _ _ h => h) (Or.inl ⟨by rfl, fun W _ => by go_simp; try with_reducible rfl⟩) hS ?_
      simp only [Act.put, List.getElem_toArray, List.getElem_cons_zero, List.setIfInBounds_toArray, List.set_cons_succ, List.set_cons_zero]
      refine wpAnyH_take (i := 1) (v := .agg (encKI .u32 x).toArray) rfl (by kernel_rfl) (by kernel_rfl) (by kernel_rfl) (fun _ _ _ h => h) (chPt.yieldsIf_load (by rfl) (.tmp 5) rfl wr.heap.size 0 rfl x (fun _ h => h)) hS ?_
      simp only [Act.put, List.getElem_toArray, List.getElem_cons_zero, List.getElem_cons_succ, List.setIfInBounds_toArray, List.set_cons_succ, List.set_cons_zero]

      refine wpAnyH_ready (rs := [2, 4]) (by kernel_rfl) (by simp) ?_
      refine AllReadyH.cons rfl (fun Kq hK => ?_) (AllReadyH.cons rfl (fun Kq hK => ?_) AllReadyH.nil)
      · refine step_lookC (by rfl) (.tmp 13) (.tmp 14) rfl MM.out keyPt mapPt zeroI rfl x rfl n CN.out ?_
        refine hK.out _ _ (RowC.of_blk XB.out) (fun hS => ?_)
        clear hK Kq
        try simp only [Act.put, List.getElem_toArray, List.getElem_cons_zero, List.getElem_cons_succ, List.setIfInBounds_toArray, List.set_cons_succ, List.set_cons_zero]
        refine wpAnyH_take (i := 3) (v := .int .i64 (n + 1)) rfl (by kernel_rfl) (by kernel_rfl) (by kernel_rfl) (fun _ _ _ h => h) (Or.inl ⟨by rfl, fun W _ => by go_simp; first | rw [HW.out] | skip⟩) hS ?_
        simp only [Act.put, List.getElem_toArray, List.getElem_cons_zero, List.getElem_cons_succ, List.setIfInBounds_toArray, List.set_cons_succ, List.set_cons_zero]
        refine wpAnyH_ready (rs := [4]) (by kernel_rfl) (by simp) ?_
        refine AllReadyH.cons rfl (fun Kq hK => ?_) AllReadyH.nil
        refine step_entryC rfl (.tmp 13) (.tmp 14) rfl MM.out keyPt mapPt zeroI rfl x rfl ?_
        intro w4 o4 m4
        have XB2 := Lib.hid (Blk.onlyC XB.out MM.out o4)
        have BB2 := Lib.hid (BB.out.trans (o4.below (by simp)))
        clear MM
        have MM := Lib.hid m4
        clear XB BB o4 m4
        have XB := XB2
        have BB := BB2
        clear XB2 BB2
        refine hK.out _ _ (RowC.of_blk XB.out) (fun hS => ?_)
        clear hK Kq
        try simp only [Act.put, List.getElem_toArray, List.getElem_cons_zero, List.getElem_cons_succ, List.setIfInBounds_toArray, List.set_cons_succ, List.set_cons_zero]
        refine wpAnyH_take (i := 5) (v := .int .i64 (idxC x m : Int)) rfl (by kernel_rfl) (by kernel_rfl) (by kernel_rfl) (fun _ _ _ h => h) (Or.inl ⟨by rfl, fun W _ => by go_simp; try with_reducible rfl⟩) hS ?_
        simp only [Act.put, List.getElem_toArray, List.getElem_cons_zero, List.getElem_cons_succ, List.setIfInBounds_toArray, List.set_cons_succ, List.set_cons_zero]
        refine wpAnyH_ready (rs := [6]) (by kernel_rfl) (by simp) ?_
        refine AllReadyH.cons rfl (fun Kq hK => ?_) AllReadyH.nil
        refine step_estoreC rfl (.tmp 13) (.tmp 18) (.tmp 16) rfl rfl MM.out rfl x (idxC x m) (cntC x m) (n + 1) rfl rfl GET.out ?_
        intro w5 o5 m5
        have XB2 := Lib.hid (Blk.onlyC XB.out MM.out o5)
        have BB2 := Lib.hid (BB.out.trans (o5.below (by simp)))
        clear MM
        have MM := Lib.hid m5
        clear XB BB o5 m5
        have XB := XB2
        have BB := BB2
        clear XB2 BB2
        refine hK.out _ _ (RowC.of_blk XB.out) (fun hS => ?_)
        clear hK Kq
        try simp only [Act.put, List.getElem_toArray, List.getElem_cons_zero, List.getElem_cons_succ, List.setIfInBounds_toArray, List.set_cons_succ, List.set_cons_zero]
        refine wpAnyH_done (by kernel_rfl) ?_ _
        go_wp2_with fail
        go_roundw
        case rel => exact ⟨j + 1, _, by go_num, HJ.out, MM, CU, BB⟩
        case measure => have := HJ.out; simp [intOf]; omega

      · refine step_entryC rfl (.tmp 13) (.tmp 14) rfl MM.out keyPt mapPt zeroI rfl x rfl ?_
        intro w4 o4 m4
        have XB2 := Lib.hid (Blk.onlyC XB.out MM.out o4)
        have BB2 := Lib.hid (BB.out.trans (o4.below (by simp)))
        clear MM
        have MM := Lib.hid m4
        clear XB BB o4 m4
        have XB := XB2
        have BB := BB2
        clear XB2 BB2
        refine hK.out _ _ (RowC.of_blk XB.out) (fun hS => ?_)
        clear hK Kq
        try simp only [Act.put, List.getElem_toArray, List.getElem_cons_zero, List.getElem_cons_succ, List.setIfInBounds_toArray, List.set_cons_succ, List.set_cons_zero]
        refine wpAnyH_take (i := 5) (v := .int .i64 (idxC x m : Int)) rfl (by kernel_rfl) (by kernel_rfl) (by kernel_rfl) (fun _ _ _ h => h) (Or.inl ⟨by rfl, fun W _ => by go_simp; try with_reducible rfl⟩) hS ?_
        simp only [Act.put, List.getElem_toArray, List.getElem_cons_zero, List.getElem_cons_succ, List.setIfInBounds_toArray, List.set_cons_succ, List.set_cons_zero]
        refine wpAnyH_ready (rs := [2]) (by kernel_rfl) (by simp) ?_
        refine AllReadyH.cons rfl (fun Kq hK => ?_) AllReadyH.nil
        refine step_lookC (by rfl) (.tmp 13) (.tmp 14) rfl MM.out keyPt mapPt zeroI rfl x rfl n ((wthC_cnt x m).trans CN.out) ?_
        refine hK.out _ _ (RowC.of_blk XB.out) (fun hS => ?_)
        clear hK Kq
        try simp only [Act.put, List.getElem_toArray, List.getElem_cons_zero, List.getElem_cons_succ, List.setIfInBounds_toArray, List.set_cons_succ, List.set_cons_zero]
        refine wpAnyH_take (i := 3) (v := .int .i64 (n + 1)) rfl (by kernel_rfl) (by kernel_rfl) (by kernel_rfl) (fun _ _ _ h => h) (Or.inl ⟨by rfl, fun W _ => by go_simp; first | rw [HW.out] | skip⟩) hS ?_
        simp only [Act.put, List.getElem_toArray, List.getElem_cons_zero, List.getElem_cons_succ, List.setIfInBounds_toArray, List.set_cons_succ, List.set_cons_zero]
        refine wpAnyH_ready (rs := [6]) (by kernel_rfl) (by simp) ?_
        refine AllReadyH.cons rfl (fun Kq hK => ?_) AllReadyH.nil
        refine step_estoreC rfl (.tmp 13) (.tmp 18) (.tmp 16) rfl rfl MM.out rfl x (idxC x m) (cntC x m) (n + 1) rfl rfl GET.out ?_
        intro w5 o5 m5
        have XB2 := Lib.hid (Blk.onlyC XB.out MM.out o5)
        have BB2 := Lib.hid (BB.out.trans (o5.below (by simp)))
        clear MM
        have MM := Lib.hid m5
        clear XB BB o5 m5
        have XB := XB2
        have BB := BB2
        clear XB2 BB2
        refine hK.out _ _ (RowC.of_blk XB.out) (fun hS => ?_)
        clear hK Kq
        try simp only [Act.put, List.getElem_toArray, List.getElem_cons_zero, List.getElem_cons_succ, List.setIfInBounds_toArray, List.set_cons_succ, List.set_cons_zero]
        refine wpAnyH_done (by kernel_rfl) ?_ _
        go_wp2_with fail
        go_roundw
        case rel => exact ⟨j + 1, _, by go_num, HJ.out, MM, CU, BB⟩
        case measure => have := HJ.out; simp [intOf]; omega

    · have hd : decide ((j : Int) < (l.length : Int)) = false := by simp; omega
      have hjl : j = l.length := by omega
      have CC2 := CC.out
      rw [hjl, List.take_length] at CC2
      have CC3 := Lib.hid CC2
      clear CC2
      go_wp2_with fail
      go_ret
      exact ⟨_, m, rfl, HB.out, MM.out, CC3.out, BB.out⟩
end Go.Proofs.Yticphjnabecanaa
