/- CoinsBack: the statement's walk. Written by genLCoB.py. -/
import Derived.Test.YtkjgmhamglhggaaCoiY
import Derived.Test.YtkjgmhamglhggaaLCoOrd
namespace Go.Proofs.Ytkjgmhamglhggaa
open Go.RowKit
theorem txc_outs {w : World} {g o : Nat} {a : TxA} (h : RowC w g o a.cells) : w.cell? ⟨g, o + 2, none⟩ = some (.slice a.Ao a.T.outs.length a.co) := tx_outs h
theorem run_min4 {P : Program} (ts : Array TypeId) (t : TypeId) (a b c d : Nat) (w : World) :
    (Builtin.min_ ts t #[.int .i64 a, .int .i64 b, .int .i64 c, .int .i64 d]).run P w = .ok (.int .i64 ((min a (min b (min c d)) : Nat) : Int)) w := by
  have h : ∀ x y : Nat, (if y < x then (y : Int) else (x : Int)) = ((min x y : Nat) : Int) := fun x y => by split <;> omega
  simp [Builtin.min_, Builtin.min2]
  simp only [h, Int.ofNat_lt]
  omega
set_option maxRecDepth 20000 in
set_option maxHeartbeats 4000000 in
theorem coback_walk (HAP : ApplyOk) (HUN : UndoOk) (HLE : LessOk) (At Ak Ah : Option Addr) (ct ck ch : Nat) (l : List TxA) (ids : List K32) (hs : List (IntV .u8)) (w : World) (ht : TxsC w w.heap.size At ct l) (hk : RowIn encK 32 w w.heap.size Ak ck ids) (hh : RowIn (enc1 .u8) 1 w w.heap.size Ah ch hs) :
    Calls Try.prog 4 #[.slice At l.length ct, .slice Ak ids.length ck, .slice Ah hs.length ch] w fun e w' => e = .returned (.bool true) ∧ Below w.heap.size w w' := by
  have SH := Lib.hid (fun W => coishown_any HAP W)
  have HP := Lib.hid HAP
  unfold UndoOk at HUN
  have HU := Lib.hid HUN
  have HL := Lib.hid HLE
  have IT := Lib.hid ht
  have IK := Lib.hid hk
  have IH := Lib.hid hh
  have mt : l.length ≤ 9223372036854775807 := by have h1 := ht.row.le; have h2 := ht.row.max; unfold maxLen at h2; omega
  have mk : ids.length ≤ 9223372036854775807 := by have h1 := hk.le; have h2 := hk.max; unfold maxLen at h2; omega
  have mh : hs.length ≤ 9223372036854775807 := by have h1 := hh.le; have h2 := hh.max; unfold maxLen at h2; omega
  obtain ⟨n, hn⟩ : ∃ n, min l.length (min ids.length (min hs.length 20)) = n := ⟨_, rfl⟩
  have HN := Lib.hid (show n ≤ l.length ∧ n ≤ ids.length ∧ n ≤ hs.length ∧ n ≤ 20 by omega)
  have hmn : ∀ W ts t, (Builtin.min_ ts t #[.int .i64 l.length, .int .i64 ids.length, .int .i64 hs.length, .int .i64 20]).run Try.prog W = .ok (.int .i64 (n : Int)) W := fun W ts t => hn ▸ run_min4 ts t l.length ids.length hs.length 20 W
  have B0 := Lib.hid (show Below w.heap.size w (w.alloc (.cells #[] 49)) from (Below.refl _ _).alloc (Nat.le_refl _) _)
  have hn20 : n ≤ 20 := HN.out.2.2.2
  clear HAP HUN HLE ht hk hh hn mt mk mh
  go_enter Try.func4, Try.ntmps4
  go_wp2_with fail
  clear hmn
  go_loopw [8, 9] (fun so si wr => ∃ (j : Nat) (A : Option Addr) (c : Nat) (s : List CoinV), so = .slice A s.length c ∧ si = .int .i64 j ∧ j ≤ n ∧ Hid (s.length ≤ 160 ∧ RisesK s) ∧ Hid (RowIn encC 68 wr wr.heap.size A c s) ∧ Hid (Below w.heap.size w wr)) (fun _ si _ => n - (intOf si).toNat)
  case atStart => exact ⟨0, _, _, [], rfl, rfl, by omega, Lib.hid ⟨by simp, List.Pairwise.nil⟩, Lib.hid (RowIn.nil (by unfold maxLen; omega)), B0⟩
  case round =>
    clear B0
    obtain ⟨j, A, c, s, rfl, rfl, hj, HS, HR, HB⟩ := hrel
    by_cases hlt : j < n
    · have hd : decide ((j : Int) < (n : Int)) = true := by simp; omega
      have hi0 : (0 : Int) ≤ (j : Int) := by omega
      have hj1 : j < l.length := by have := HN.out; omega
      have hj2 : j < ids.length := by have := HN.out; omega
      have hj3 : j < hs.length := by have := HN.out; omega
      have hi1 : (j : Int) < (l.length : Int) := by omega
      have hi2 : (j : Int) < (ids.length : Int) := by omega
      have hi3 : (j : Int) < (hs.length : Int) := by omega
      obtain ⟨gt, ot, hAt, hgt, hct⟩ := IT.out.row.at TxA.len hj1
      obtain ⟨gk, ok, hAk, hgk, hck⟩ := IK.out.at encK_len hj2
      obtain ⟨gh, oh, hAh, hgh, hch⟩ := IH.out.at (enc1_len _) hj3
      have HIn := Lib.hid (IT.out.each _ (List.getElem_mem hj1))
      obtain ⟨a, ha⟩ : ∃ a, l[j]'hj1 = a := ⟨_, rfl⟩
      obtain ⟨id, hid⟩ : ∃ id, ids[j]'hj2 = id := ⟨_, rfl⟩
      obtain ⟨z, hz⟩ : ∃ z, hs[j]'hj3 = z := ⟨_, rfl⟩
      rw [ha] at hct HIn
      rw [hid] at hck
      rw [hz] at hch
      subst hAt
      subst hAk
      subst hAh
      have RT := Lib.hid (show RowC w gt (ot + j * 38) a.cells ∧ gt < w.heap.size from ⟨hct, hgt⟩)
      have RK := Lib.hid (show RowC w gk (ok + j * 32) (encK id) ∧ gk < w.heap.size from ⟨hck, hgk⟩)
      have RH := Lib.hid (show RowC w gh (oh + j * 1) (enc1 .u8 z) ∧ gh < w.heap.size from ⟨hch, hgh⟩)
      clear ha hid hz hct hck hch hgt hgk hgh
      have hz0 : 0 ≤ z.1 ∧ z.1 < 256 := by
        have := z.2
        simp [Lit.wf, IntKind.min, IntKind.max, IntKind.signed, IntKind.bits] at this
        omega
      obtain ⟨h, hh⟩ : ∃ h : IntV .u32, h.1 = z.1 := ⟨⟨z.1, wf_u32.2 (by omega)⟩, rfl⟩
      have HH := Lib.hid hh
      have hzc : z.1 % 4294967296 = z.1 := by omega
      have HZC := Lib.hid (show IntKind.u32.wrap z.1 = z.1 by rw [IntKind.wrap_u32]; omega)
      have HJ := Lib.hid (show j + 1 ≤ n ∧ j < n from ⟨by omega, hlt⟩)
      clear hh hz0 hzc
      have CT := Lib.hid (RT.out.1.below HB.out RT.out.2)
      go_wp2_with ((with_reducible refine at_load 31 ?_); refine tyTxC.wpList_load rfl (.tmp 31) rfl gt (ot + j * 38) rfl a CT.out ?_)
      refine (coheavy_any A c s a _ (by have := HS.out.1; omega)).mono ?_
      rintro e w1 ⟨rfl, b1⟩
      have B1 := Lib.hid (HB.out.trans (b1.mono HB.out.size))
      have R1 := Lib.hid ((HR.out.below b1).more b1.size)
      clear b1 HB HR CT
      obtain ⟨hv, hhv⟩ : ∃ hv, cheavyF s a.T = hv := ⟨_, rfl⟩
      rw [hhv]
      have HV := Lib.hid hhv
      clear hhv
      cases hv with
      | true =>
        go_wp2_with fail
        refine (SH.out _).mono ?_
        rintro e w2 ⟨rfl, b2⟩
        have B2 := Lib.hid (B1.out.trans (b2.mono B1.out.size))
        go_wp2_with fail
        go_ret
        exact ⟨rfl, B2.out⟩
      | false =>
        have HW := Lib.hid (coheavy_no HV.out)
        go_wp2_with fail
        refine (SH.out _).mono ?_
        rintro e w2 ⟨rfl, b2⟩
        have B2 := Lib.hid (B1.out.trans (b2.mono B1.out.size))
        have R2 := Lib.hid ((R1.out.below b2).more b2.size)
        clear b2 B1 R1
        go_wp2_with fail
        have BD := Lib.hid (show Below w.heap.size w w2.drew from B2.out.drew)
        have RD := Lib.hid (show RowIn encC 68 w2.drew w2.drew.heap.size A c s from R2.out.drewN 1)
        clear B2 R2
        refine wp_region_held_drew (S := fun W => RowC W gt (ot + j * 38) a.cells ∧ RowC W gk (ok + j * 32) (encK id) ∧ RowC W gh (oh + j * 1) (enc1 .u8 z)) (by kernel_rfl) ⟨RT.out.1.below BD.out RT.out.2, RK.out.1.below BD.out RK.out.2, RH.out.1.below BD.out RH.out.2⟩ ?_
        intro hS
        refine wpAnyH_take (i := 0) (v := .slice A s.length c) rfl (by kernel_rfl) (by kernel_rfl) (by kernel_rfl) (fun _ _ _ h => h) (Or.inl ⟨by rfl, fun W _ => by go_simp; try with_reducible rfl⟩) hS ?_
        simp only [Act.put, List.getElem_toArray, List.getElem_cons_zero, List.setIfInBounds_toArray, List.set_cons_succ, List.set_cons_zero]
        refine wpAnyH_take (i := 1) (v := .slice (some ⟨gt, ot, none⟩) l.length ct) rfl (by kernel_rfl) (by kernel_rfl) (by kernel_rfl) (fun _ _ _ h => h) (Or.inl ⟨by rfl, fun W _ => by go_simp; try with_reducible rfl⟩) hS ?_
        simp only [Act.put, List.getElem_toArray, List.getElem_cons_zero, List.getElem_cons_succ, List.setIfInBounds_toArray, List.set_cons_succ, List.set_cons_zero]
        refine wpAnyH_take (i := 2) (v := .int .i64 j) rfl (by kernel_rfl) (by kernel_rfl) (by kernel_rfl) (fun _ _ _ h => h) (Or.inl ⟨by rfl, fun W _ => by go_simp; try with_reducible rfl⟩) hS ?_
        simp only [Act.put, List.getElem_toArray, List.getElem_cons_zero, List.getElem_cons_succ, List.setIfInBounds_toArray, List.set_cons_succ, List.set_cons_zero]
        refine wpAnyH_take (i := 3) (v := .pointer (some ⟨gt, ot + j * 38, none⟩)) rfl (by kernel_rfl) (by kernel_rfl) (by kernel_rfl) (fun _ _ _ h => h) (Or.inl ⟨by rfl, fun W _ => by go_simp; try with_reducible rfl⟩) hS ?_
        simp only [Act.put, List.getElem_toArray, List.getElem_cons_zero, List.getElem_cons_succ, List.setIfInBounds_toArray, List.set_cons_succ, List.set_cons_zero]
        refine wpAnyH_take (i := 4) (v := .agg a.cells.toArray) rfl (by kernel_rfl) (by kernel_rfl) (by kernel_rfl) (fun _ _ _ h => h) (tyTxC.yieldsIf_load (by rfl) (.tmp 43) rfl gt (ot + j * 38) rfl a (fun _ h => h.1)) hS ?_
        simp only [Act.put, List.getElem_toArray, List.getElem_cons_zero, List.getElem_cons_succ, List.setIfInBounds_toArray, List.set_cons_succ, List.set_cons_zero]
        refine wpAnyH_take (i := 5) (v := .slice (some ⟨gk, ok, none⟩) ids.length ck) rfl (by kernel_rfl) (by kernel_rfl) (by kernel_rfl) (fun _ _ _ h => h) (Or.inl ⟨by rfl, fun W _ => by go_simp; try with_reducible rfl⟩) hS ?_
        simp only [Act.put, List.getElem_toArray, List.getElem_cons_zero, List.getElem_cons_succ, List.setIfInBounds_toArray, List.set_cons_succ, List.set_cons_zero]
        refine wpAnyH_take (i := 6) (v := .int .i64 j) rfl (by kernel_rfl) (by kernel_rfl) (by kernel_rfl) (fun _ _ _ h => h) (Or.inl ⟨by rfl, fun W _ => by go_simp; try with_reducible rfl⟩) hS ?_
        simp only [Act.put, List.getElem_toArray, List.getElem_cons_zero, List.getElem_cons_succ, List.setIfInBounds_toArray, List.set_cons_succ, List.set_cons_zero]
        refine wpAnyH_take (i := 7) (v := .pointer (some ⟨gk, ok + j * 32, none⟩)) rfl (by kernel_rfl) (by kernel_rfl) (by kernel_rfl) (fun _ _ _ h => h) (Or.inl ⟨by rfl, fun W _ => by go_simp; try with_reducible rfl⟩) hS ?_
        simp only [Act.put, List.getElem_toArray, List.getElem_cons_zero, List.getElem_cons_succ, List.setIfInBounds_toArray, List.set_cons_succ, List.set_cons_zero]
        refine wpAnyH_take (i := 8) (v := .agg (encK id).toArray) rfl (by kernel_rfl) (by kernel_rfl) (by kernel_rfl) (fun _ _ _ h => h) (tyKc.yieldsIf_load (by rfl) (.tmp 47) rfl gk (ok + j * 32) rfl id (fun _ h => h.2.1)) hS ?_
        simp only [Act.put, List.getElem_toArray, List.getElem_cons_zero, List.getElem_cons_succ, List.setIfInBounds_toArray, List.set_cons_succ, List.set_cons_zero]
        refine wpAnyH_take (i := 9) (v := .slice (some ⟨gh, oh, none⟩) hs.length ch) rfl (by kernel_rfl) (by kernel_rfl) (by kernel_rfl) (fun _ _ _ h => h) (Or.inl ⟨by rfl, fun W _ => by go_simp; try with_reducible rfl⟩) hS ?_
        simp only [Act.put, List.getElem_toArray, List.getElem_cons_zero, List.getElem_cons_succ, List.setIfInBounds_toArray, List.set_cons_succ, List.set_cons_zero]
        refine wpAnyH_take (i := 10) (v := .int .i64 j) rfl (by kernel_rfl) (by kernel_rfl) (by kernel_rfl) (fun _ _ _ h => h) (Or.inl ⟨by rfl, fun W _ => by go_simp; try with_reducible rfl⟩) hS ?_
        simp only [Act.put, List.getElem_toArray, List.getElem_cons_zero, List.getElem_cons_succ, List.setIfInBounds_toArray, List.set_cons_succ, List.set_cons_zero]
        refine wpAnyH_take (i := 11) (v := .pointer (some ⟨gh, oh + j * 1, none⟩)) rfl (by kernel_rfl) (by kernel_rfl) (by kernel_rfl) (fun _ _ _ h => h) (Or.inl ⟨by rfl, fun W _ => by go_simp; try with_reducible rfl⟩) hS ?_
        simp only [Act.put, List.getElem_toArray, List.getElem_cons_zero, List.getElem_cons_succ, List.setIfInBounds_toArray, List.set_cons_succ, List.set_cons_zero]
        refine wpAnyH_take (i := 12) (v := .int .u8 z.1) rfl (by kernel_rfl) (by kernel_rfl) (by kernel_rfl) (fun _ _ _ h => h) (yieldsIf_cell (by rfl) 5 (.tmp 51) rfl ⟨gh, oh + j * 1, none⟩ rfl _ Try.isAgg5 (fun _ h => h.2.2.head)) hS ?_
        simp only [Act.put, List.getElem_toArray, List.getElem_cons_zero, List.getElem_cons_succ, List.setIfInBounds_toArray, List.set_cons_succ, List.set_cons_zero]
        have hzc := HZC.out
        refine wpAnyH_take (i := 13) (v := .int .u32 z.1) rfl (by kernel_rfl) (by kernel_rfl) (by kernel_rfl) (fun _ _ _ h => h) (Or.inl ⟨by rfl, fun W _ => by go_simp; try with_reducible rfl⟩) hS ?_
        simp only [Act.put, List.getElem_toArray, List.getElem_cons_zero, List.getElem_cons_succ, List.setIfInBounds_toArray, List.set_cons_succ, List.set_cons_zero]
        refine wpAnyH_ready (rs := [14]) (by kernel_rfl) (by simp) ?_
        refine AllReadyH.cons rfl (fun Kq hK => ?_) AllReadyH.nil
        go_simp
        with_reducible refine (HP.out.at HH.out a id A c s _ (HIn.out.on BD.out (Nat.le_refl _)) RD.out (by have := HS.out.1; omega) (by have := HW.out; omega) (by have := HW.out; omega) HS.out.2).mono ?_
        have HC := Lib.hid (apply_cases s a.T id h)
        have HLN := Lib.hid (apply_len s a.T id h)
        obtain ⟨X, hX⟩ : ∃ X, applyR s a.T id h = X := ⟨_, rfl⟩
        rw [hX] at HLN ⊢
        have HX := Lib.hid hX
        clear hX
        obtain ⟨⟨u, sp⟩, er⟩ := X
        rintro e w3 ⟨A1, c1, A2, c2, rfl, r1, r2, b3⟩
        have B3 := Lib.hid (BD.out.trans (b3.mono BD.out.size))
        have R3 := Lib.hid (show RowIn encC 68 w3 w3.heap.size A c s ∧ RowIn encC 68 w3 w3.heap.size A1 c1 u ∧ RowIn encC 68 w3 w3.heap.size A2 c2 sp from ⟨(RD.out.below b3).more b3.size, r1, r2⟩)
        clear b3 r1 r2 BD RD
        refine hK.out _ _ ⟨RT.out.1.below B3.out RT.out.2, RK.out.1.below B3.out RK.out.2, RH.out.1.below B3.out RH.out.2⟩ (fun hS => ?_)
        clear hK Kq
        refine wpAnyH_take (i := 15) (v := .tuple #[.slice A1 u.length c1, .slice A2 sp.length c2, .int .i64 er]) rfl (by kernel_rfl) (by kernel_rfl) (by kernel_rfl) (fun _ _ _ h => h) (Or.inl ⟨by rfl, fun W _ => by go_simp; try with_reducible rfl⟩) hS ?_
        simp only [Act.put, List.getElem_toArray, List.getElem_cons_zero, List.getElem_cons_succ, List.setIfInBounds_toArray, List.set_cons_succ, List.set_cons_zero]
        refine wpAnyH_take (i := 16) (v := .slice A1 u.length c1) rfl (by kernel_rfl) (by kernel_rfl) (by kernel_rfl) (fun _ _ _ h => h) (Or.inl ⟨by rfl, fun W _ => by go_simp; try with_reducible rfl⟩) hS ?_
        simp only [Act.put, List.getElem_toArray, List.getElem_cons_zero, List.getElem_cons_succ, List.setIfInBounds_toArray, List.set_cons_succ, List.set_cons_zero]
        refine wpAnyH_take (i := 17) (v := .slice A2 sp.length c2) rfl (by kernel_rfl) (by kernel_rfl) (by kernel_rfl) (fun _ _ _ h => h) (Or.inl ⟨by rfl, fun W _ => by go_simp; try with_reducible rfl⟩) hS ?_
        simp only [Act.put, List.getElem_toArray, List.getElem_cons_zero, List.getElem_cons_succ, List.setIfInBounds_toArray, List.set_cons_succ, List.set_cons_zero]
        refine wpAnyH_take (i := 18) (v := .int .i64 er) rfl (by kernel_rfl) (by kernel_rfl) (by kernel_rfl) (fun _ _ _ h => h) (Or.inl ⟨by rfl, fun W _ => by go_simp; try with_reducible rfl⟩) hS ?_
        simp only [Act.put, List.getElem_toArray, List.getElem_cons_zero, List.getElem_cons_succ, List.setIfInBounds_toArray, List.set_cons_succ, List.set_cons_zero]
        refine wpAnyH_take (i := 19) (v := .slice A1 u.length c1) rfl (by kernel_rfl) (by kernel_rfl) (by kernel_rfl) (fun _ _ _ h => h) (Or.inl ⟨by rfl, fun W _ => by go_simp; try with_reducible rfl⟩) hS ?_
        simp only [Act.put, List.getElem_toArray, List.getElem_cons_zero, List.getElem_cons_succ, List.setIfInBounds_toArray, List.set_cons_succ, List.set_cons_zero]
        refine wpAnyH_take (i := 20) (v := .slice A2 sp.length c2) rfl (by kernel_rfl) (by kernel_rfl) (by kernel_rfl) (fun _ _ _ h => h) (Or.inl ⟨by rfl, fun W _ => by go_simp; try with_reducible rfl⟩) hS ?_
        simp only [Act.put, List.getElem_toArray, List.getElem_cons_zero, List.getElem_cons_succ, List.setIfInBounds_toArray, List.set_cons_succ, List.set_cons_zero]
        refine wpAnyH_take (i := 21) (v := .int .i64 er) rfl (by kernel_rfl) (by kernel_rfl) (by kernel_rfl) (fun _ _ _ h => h) (Or.inl ⟨by rfl, fun W _ => by go_simp; try with_reducible rfl⟩) hS ?_
        simp only [Act.put, List.getElem_toArray, List.getElem_cons_zero, List.getElem_cons_succ, List.setIfInBounds_toArray, List.set_cons_succ, List.set_cons_zero]
        refine wpAnyH_done (by kernel_rfl) ?_ _
        clear hS
        rcases HC.out with (e1 | e1) | ⟨m', sp', u', _, _, e1⟩
        · have e2 : ((u, sp), er) = ((([], []) : List CoinV × List CoinV), (160 : Int)) := HX.out.symm.trans e1
          simp only [Prod.mk.injEq] at e2
          obtain ⟨⟨rfl, rfl⟩, rfl⟩ := e2
          have B4 := Lib.hid B3.out
          have R4 := Lib.hid R3.out.1
          clear e1 HX HLN B3 R3 HC
          go_wp2_with fail
          go_roundw
          case rel => exact ⟨j + 1, A, c, s, rfl, by go_num, HJ.out.1, HS, R4, B4⟩
          case measure => have := HJ.out; simp [intOf]; omega
        · have e2 : ((u, sp), er) = ((([], []) : List CoinV × List CoinV), (4 : Int)) := HX.out.symm.trans e1
          simp only [Prod.mk.injEq] at e2
          obtain ⟨⟨rfl, rfl⟩, rfl⟩ := e2
          have B4 := Lib.hid B3.out
          have R4 := Lib.hid R3.out.1
          clear e1 HX HLN B3 R3 HC
          go_wp2_with fail
          go_roundw
          case rel => exact ⟨j + 1, A, c, s, rfl, by go_num, HJ.out.1, HS, R4, B4⟩
          case measure => have := HJ.out; simp [intOf]; omega
        · have e2 : ((u, sp), er) = ((u', sp'), (0 : Int)) := HX.out.symm.trans e1
          simp only [Prod.mk.injEq] at e2
          obtain ⟨⟨rfl, rfl⟩, rfl⟩ := e2
          have HBK := Lib.hid (apply_back HS.out.2 HX.out)
          have HAB := Lib.hid (show u.length ≤ 160 ∧ sp.length ≤ 160 by have := HLN.out; have := HS.out.1; have := HW.out; have := HBK.out; simp only at *; omega)
          clear e1 HX HLN HC
          go_wp2_with fail
          have BD := Lib.hid (show Below w.heap.size w w3.drew from B3.out.drew)
          have RD := Lib.hid (show RowIn encC 68 w3.drew w3.drew.heap.size A c s ∧ RowIn encC 68 w3.drew w3.drew.heap.size A1 c1 u ∧ RowIn encC 68 w3.drew w3.drew.heap.size A2 c2 sp from ⟨R3.out.1.drewN 1, R3.out.2.1.drewN 1, R3.out.2.2.drewN 1⟩)
          clear B3 R3
          refine wp_region_held_drew (S := fun W => RowC W gt (ot + j * 38) a.cells ∧ RowC W gk (ok + j * 32) (encK id)) (by kernel_rfl) ⟨RT.out.1.below BD.out RT.out.2, RK.out.1.below BD.out RK.out.2⟩ ?_
          intro hS
          refine wpAnyH_take (i := 0) (v := .slice A1 u.length c1) rfl (by kernel_rfl) (by kernel_rfl) (by kernel_rfl) (fun _ _ _ h => h) (Or.inl ⟨by rfl, fun W _ => by go_simp; try with_reducible rfl⟩) hS ?_
          simp only [Act.put, List.getElem_toArray, List.getElem_cons_zero, List.setIfInBounds_toArray, List.set_cons_succ, List.set_cons_zero]
          refine wpAnyH_take (i := 1) (v := .slice (some ⟨gt, ot, none⟩) l.length ct) rfl (by kernel_rfl) (by kernel_rfl) (by kernel_rfl) (fun _ _ _ h => h) (Or.inl ⟨by rfl, fun W _ => by go_simp; try with_reducible rfl⟩) hS ?_
          simp only [Act.put, List.getElem_toArray, List.getElem_cons_zero, List.getElem_cons_succ, List.setIfInBounds_toArray, List.set_cons_succ, List.set_cons_zero]
          refine wpAnyH_take (i := 2) (v := .int .i64 j) rfl (by kernel_rfl) (by kernel_rfl) (by kernel_rfl) (fun _ _ _ h => h) (Or.inl ⟨by rfl, fun W _ => by go_simp; try with_reducible rfl⟩) hS ?_
          simp only [Act.put, List.getElem_toArray, List.getElem_cons_zero, List.getElem_cons_succ, List.setIfInBounds_toArray, List.set_cons_succ, List.set_cons_zero]
          refine wpAnyH_take (i := 3) (v := .pointer (some ⟨gt, ot + j * 38, none⟩)) rfl (by kernel_rfl) (by kernel_rfl) (by kernel_rfl) (fun _ _ _ h => h) (Or.inl ⟨by rfl, fun W _ => by go_simp; try with_reducible rfl⟩) hS ?_
          simp only [Act.put, List.getElem_toArray, List.getElem_cons_zero, List.getElem_cons_succ, List.setIfInBounds_toArray, List.set_cons_succ, List.set_cons_zero]
          refine wpAnyH_take (i := 4) (v := .agg a.cells.toArray) rfl (by kernel_rfl) (by kernel_rfl) (by kernel_rfl) (fun _ _ _ h => h) (tyTxC.yieldsIf_load (by rfl) (.tmp 80) rfl gt (ot + j * 38) rfl a (fun _ h => h.1)) hS ?_
          simp only [Act.put, List.getElem_toArray, List.getElem_cons_zero, List.getElem_cons_succ, List.setIfInBounds_toArray, List.set_cons_succ, List.set_cons_zero]
          refine wpAnyH_take (i := 5) (v := .slice (some ⟨gk, ok, none⟩) ids.length ck) rfl (by kernel_rfl) (by kernel_rfl) (by kernel_rfl) (fun _ _ _ h => h) (Or.inl ⟨by rfl, fun W _ => by go_simp; try with_reducible rfl⟩) hS ?_
          simp only [Act.put, List.getElem_toArray, List.getElem_cons_zero, List.getElem_cons_succ, List.setIfInBounds_toArray, List.set_cons_succ, List.set_cons_zero]
          refine wpAnyH_take (i := 6) (v := .int .i64 j) rfl (by kernel_rfl) (by kernel_rfl) (by kernel_rfl) (fun _ _ _ h => h) (Or.inl ⟨by rfl, fun W _ => by go_simp; try with_reducible rfl⟩) hS ?_
          simp only [Act.put, List.getElem_toArray, List.getElem_cons_zero, List.getElem_cons_succ, List.setIfInBounds_toArray, List.set_cons_succ, List.set_cons_zero]
          refine wpAnyH_take (i := 7) (v := .pointer (some ⟨gk, ok + j * 32, none⟩)) rfl (by kernel_rfl) (by kernel_rfl) (by kernel_rfl) (fun _ _ _ h => h) (Or.inl ⟨by rfl, fun W _ => by go_simp; try with_reducible rfl⟩) hS ?_
          simp only [Act.put, List.getElem_toArray, List.getElem_cons_zero, List.getElem_cons_succ, List.setIfInBounds_toArray, List.set_cons_succ, List.set_cons_zero]
          refine wpAnyH_take (i := 8) (v := .agg (encK id).toArray) rfl (by kernel_rfl) (by kernel_rfl) (by kernel_rfl) (fun _ _ _ h => h) (tyKc.yieldsIf_load (by rfl) (.tmp 84) rfl gk (ok + j * 32) rfl id (fun _ h => h.2)) hS ?_
          simp only [Act.put, List.getElem_toArray, List.getElem_cons_zero, List.getElem_cons_succ, List.setIfInBounds_toArray, List.set_cons_succ, List.set_cons_zero]
          refine wpAnyH_take (i := 9) (v := .slice A2 sp.length c2) rfl (by kernel_rfl) (by kernel_rfl) (by kernel_rfl) (fun _ _ _ h => h) (Or.inl ⟨by rfl, fun W _ => by go_simp; try with_reducible rfl⟩) hS ?_
          simp only [Act.put, List.getElem_toArray, List.getElem_cons_zero, List.getElem_cons_succ, List.setIfInBounds_toArray, List.set_cons_succ, List.set_cons_zero]
          refine wpAnyH_ready (rs := [10]) (by kernel_rfl) (by simp) ?_
          refine AllReadyH.cons rfl (fun Kq hK => ?_) AllReadyH.nil
          go_simp
          with_reducible refine (HU.out a id A1 A2 c1 c2 u sp _ (HIn.out.on BD.out (Nat.le_refl _)) RD.out.2.1 RD.out.2.2 (by have := HAB.out; omega) (by have := HAB.out; omega) (by have := HW.out; omega)).mono ?_
          rw [HBK.out.2.2.2]
          rintro e w4 ⟨A3, c3, rfl, r4, b4⟩
          have B4 := Lib.hid (BD.out.trans (b4.mono BD.out.size))
          have R4 := Lib.hid (show RowIn encC 68 w4 w4.heap.size A c s ∧ RowIn encC 68 w4 w4.heap.size A1 c1 u ∧ RowIn encC 68 w4 w4.heap.size A3 c3 s from ⟨(RD.out.1.below b4).more b4.size, (RD.out.2.1.below b4).more b4.size, r4⟩)
          clear b4 r4 BD RD
          refine hK.out _ _ ⟨RT.out.1.below B4.out RT.out.2, RK.out.1.below B4.out RK.out.2⟩ (fun hS => ?_)
          clear hK Kq
          refine wpAnyH_take (i := 11) (v := .tuple #[.slice A3 s.length c3, .int .i64 0]) rfl (by kernel_rfl) (by kernel_rfl) (by kernel_rfl) (fun _ _ _ h => h) (Or.inl ⟨by rfl, fun W _ => by go_simp; try with_reducible rfl⟩) hS ?_
          simp only [Act.put, List.getElem_toArray, List.getElem_cons_zero, List.getElem_cons_succ, List.setIfInBounds_toArray, List.set_cons_succ, List.set_cons_zero]
          refine wpAnyH_take (i := 12) (v := .slice A3 s.length c3) rfl (by kernel_rfl) (by kernel_rfl) (by kernel_rfl) (fun _ _ _ h => h) (Or.inl ⟨by rfl, fun W _ => by go_simp; try with_reducible rfl⟩) hS ?_
          simp only [Act.put, List.getElem_toArray, List.getElem_cons_zero, List.getElem_cons_succ, List.setIfInBounds_toArray, List.set_cons_succ, List.set_cons_zero]
          refine wpAnyH_take (i := 13) (v := .int .i64 0) rfl (by kernel_rfl) (by kernel_rfl) (by kernel_rfl) (fun _ _ _ h => h) (Or.inl ⟨by rfl, fun W _ => by go_simp; try with_reducible rfl⟩) hS ?_
          simp only [Act.put, List.getElem_toArray, List.getElem_cons_zero, List.getElem_cons_succ, List.setIfInBounds_toArray, List.set_cons_succ, List.set_cons_zero]
          refine wpAnyH_take (i := 14) (v := .slice A3 s.length c3) rfl (by kernel_rfl) (by kernel_rfl) (by kernel_rfl) (fun _ _ _ h => h) (Or.inl ⟨by rfl, fun W _ => by go_simp; try with_reducible rfl⟩) hS ?_
          simp only [Act.put, List.getElem_toArray, List.getElem_cons_zero, List.getElem_cons_succ, List.setIfInBounds_toArray, List.set_cons_succ, List.set_cons_zero]
          refine wpAnyH_take (i := 15) (v := .int .i64 0) rfl (by kernel_rfl) (by kernel_rfl) (by kernel_rfl) (fun _ _ _ h => h) (Or.inl ⟨by rfl, fun W _ => by go_simp; try with_reducible rfl⟩) hS ?_
          simp only [Act.put, List.getElem_toArray, List.getElem_cons_zero, List.getElem_cons_succ, List.setIfInBounds_toArray, List.set_cons_succ, List.set_cons_zero]
          refine wpAnyH_done (by kernel_rfl) ?_ _
          clear hS
          go_wp2_with fail
          refine (theirs_r A3 c3 s _ R4.out.2.2 (by have := HS.out.1; omega)).mono ?_
          rintro e w5 ⟨A5, c5, rfl, r5, b5⟩
          have B5 := Lib.hid (B4.out.trans (b5.mono B4.out.size))
          have R5 := Lib.hid (show RowIn encC 68 w5 w5.heap.size A c s ∧ RowIn encC 68 w5 w5.heap.size A1 c1 u ∧ RowIn encC 68 w5 w5.heap.size A5 c5 s from ⟨(R4.out.1.below b5).more b5.size, (R4.out.2.1.below b5).more b5.size, r5⟩)
          clear b5 r5 B4 R4
          go_wp2_with fail
          refine (theirs_r A c s _ R5.out.1 (by have := HS.out.1; omega)).mono ?_
          rintro e w6 ⟨A6, c6, rfl, r6, b6⟩
          have B6 := Lib.hid (B5.out.trans (b6.mono B5.out.size))
          have R6 := Lib.hid (show RowIn encC 68 w6 w6.heap.size A1 c1 u ∧ RowIn encC 68 w6 w6.heap.size A5 c5 s ∧ RowIn encC 68 w6 w6.heap.size A6 c6 s from ⟨(R5.out.2.1.below b6).more b6.size, (R5.out.2.2.below b6).more b6.size, r6⟩)
          clear b6 r6 B5 R5
          go_wp2_with fail
          refine (csame_any A5 A6 c5 c6 s s _ R6.out.2.1 R6.out.2.2).mono ?_
          rintro e w7 ⟨rfl, b7⟩
          rw [show decide (s = s) = true from decide_eq_true rfl]
          have B7 := Lib.hid (B6.out.trans (b7.mono B6.out.size))
          have R7 := Lib.hid ((R6.out.1.below b7).more b7.size)
          clear b7 B6 R6
          go_wp2_with fail
          refine (rising_any HL.out A1 c1 u _ R7.out (by have := HAB.out; omega) HBK.out.1).mono ?_
          rintro e w8 ⟨rfl, b8⟩
          have B8 := Lib.hid (B7.out.trans (b8.mono B7.out.size))
          have R8 := Lib.hid ((R7.out.below b8).more b8.size)
          clear b8 B7 R7
          have cb : w8.cell? ⟨gt, ot + j * 38 + 2, none⟩ = some (.slice a.Ao a.T.outs.length a.co) := txc_outs (RT.out.1.below B8.out RT.out.2)
          have hl1 : IntKind.i64.wrap ((s.length : Int) - (sp.length : Int)) = (s.length : Int) - (sp.length : Int) := by have := HBK.out; have := HAB.out; have := HS.out.1; rw [IntKind.wrap_i64]; omega
          have hl2 : IntKind.i64.wrap ((s.length : Int) - (sp.length : Int) + (a.T.outs.length : Int)) = (u.length : Int) := by have := HBK.out; have := HAB.out; have := HS.out.1; have := HW.out; rw [IntKind.wrap_i64]; omega
          have hl3 : (s.length : Int) - (sp.length : Int) + (a.T.outs.length : Int) = (u.length : Int) := by have := HBK.out; omega
          have hl4 : IntKind.i64.wrap (u.length : Int) = (u.length : Int) := by have := HAB.out; rw [IntKind.wrap_i64]; omega
          go_wp2_with fail
          go_roundw
          case rel => exact ⟨j + 1, A1, c1, u, rfl, by go_num, HJ.out.1, Lib.hid ⟨HAB.out.1, HBK.out.1⟩, R8, B8⟩
          case measure => have := HJ.out; simp [intOf]; omega
    · have hd : decide ((j : Int) < (n : Int)) = false := by simp; omega
      go_wp2_with fail
      refine (SH.out _).mono ?_
      rintro e w9 ⟨rfl, b9⟩
      have B9 := Lib.hid (HB.out.trans (b9.mono HB.out.size))
      go_wp2_with fail
      go_ret
      exact ⟨rfl, B9.out⟩
end Go.Proofs.Ytkjgmhamglhggaa
