/- CoinsKept: the statement's walk. Written by genLCoK.py. -/
import Derived.Test.YtkjgmhamglhggaaCoiY
namespace Go.Proofs.Ytkjgmhamglhggaa
open Go.RowKit
theorem run_min3 {P : Program} (ts : Array TypeId) (t : TypeId) (a b c : Nat) (w : World) :
    (Builtin.min_ ts t #[.int .i64 a, .int .i64 b, .int .i64 c]).run P w = .ok (.int .i64 ((min a (min b c) : Nat) : Int)) w := by
  have h : ∀ x y : Nat, (if y < x then (y : Int) else (x : Int)) = ((min x y : Nat) : Int) := fun x y => by split <;> omega
  simp [Builtin.min_, Builtin.min2]
  simp only [h, Int.ofNat_lt]
  omega
theorem any_take (sp : List CoinV) (p : PtV) (j : Nat) (hj : j < sp.length) : (sp.take (j + 1)).any (fun c => decide (c.at_ = p)) = ((sp.take j).any (fun c => decide (c.at_ = p)) || decide (sp[j].at_ = p)) := by
  rw [List.take_succ_eq_append_getElem hj, List.any_append]
  simp
theorem any_none {sp : List CoinV} {p : PtV} (h : sp.any (fun c => decide (c.at_ = p)) = false) : ∀ d ∈ sp, d.at_ ≠ p := fun d hd e => by
  have := List.any_eq_false.1 h d hd
  simp [e] at this
set_option maxRecDepth 20000 in
set_option maxHeartbeats 4000000 in
theorem ckept_walk (HAP : ApplyOk) (HFI : FindOk) (At Ak : Option Addr) (ct ck : Nat) (l : List TxA) (ids : List K32) (t : TxA) (idt : K32) (p : PtV) (w : World) (ht : TxsC w w.heap.size At ct l) (hk : RowIn encK 32 w w.heap.size Ak ck ids) (hti : t.In w w.heap.size) :
    Calls Try.prog 8 #[.slice At l.length ct, .slice Ak ids.length ck, .agg t.cells.toArray, .agg (encK idt).toArray, .agg (encKI .u32 p).toArray] w fun e w' => e = .returned (.bool true) ∧ Below w.heap.size w w' := by
  have SH := Lib.hid (fun W => coishown_any HAP W)
  obtain ⟨Z0, hZ0, hz0, hzs0, hzn0⟩ := zero_of zeroCo_ok zeroC_size
  have HZS := Lib.hid hzs0
  clear hZ0 hzs0
  have HP := Lib.hid HAP
  unfold FindOk at HFI
  have HF := Lib.hid HFI
  have IT := Lib.hid ht
  have IK := Lib.hid hk
  have II := Lib.hid hti
  have mt : l.length ≤ 9223372036854775807 := by have h1 := ht.row.le; have h2 := ht.row.max; unfold maxLen at h2; omega
  have mk : ids.length ≤ 9223372036854775807 := by have h1 := hk.le; have h2 := hk.max; unfold maxLen at h2; omega
  obtain ⟨n, hn⟩ : ∃ n, min l.length (min ids.length 20) = n := ⟨_, rfl⟩
  have HN := Lib.hid (show n ≤ l.length ∧ n ≤ ids.length ∧ n ≤ 20 by omega)
  have hmn : ∀ W ts t, (Builtin.min_ ts t #[.int .i64 l.length, .int .i64 ids.length, .int .i64 20]).run Try.prog W = .ok (.int .i64 (n : Int)) W := fun W ts t => hn ▸ run_min3 ts t l.length ids.length 20 W
  have H0 := Lib.hid (show Holds w [(w.heap.size + 2, 32, (encKI .u32 p).toArray), (w.heap.size + 1, 27, (encK idt).toArray), (w.heap.size, 30, t.cells.toArray)] ((((w.alloc (.cells t.cells.toArray 30)).alloc (.cells (encK idt).toArray 27)).alloc (.cells (encKI .u32 p).toArray 32)).alloc (.cells #[] 49)) from by
    have := ((((Holds.nil w).box 30 t.cells.toArray).box 27 (encK idt).toArray).box 32 (encKI .u32 p).toArray).alloc (.cells #[] 49)
    simpa only [World.size_alloc, Nat.add_assoc] using this)
  have hn20 : n ≤ 20 := HN.out.2.2
  clear HAP HFI ht hk hn mt mk hti
  go_enter Try.func8, Try.ntmps8
  go_wp2_with fail
  clear hmn
  go_loopw [12, 13] (fun so si wr => ∃ (j : Nat) (A : Option Addr) (c : Nat) (s : List CoinV), so = .slice A s.length c ∧ si = .int .i64 j ∧ j ≤ n ∧ Hid (s.length ≤ 160 ∧ RisesK s) ∧ Hid (RowIn encC 68 wr wr.heap.size A c s) ∧ Hid (Holds w [(w.heap.size + 2, 32, (encKI .u32 p).toArray), (w.heap.size + 1, 27, (encK idt).toArray), (w.heap.size, 30, t.cells.toArray)] wr)) (fun _ si _ => n - (intOf si).toNat)
  case atStart => exact ⟨0, _, _, [], rfl, rfl, by omega, Lib.hid ⟨by simp, .nil⟩, Lib.hid (RowIn.nil (by unfold maxLen; omega)), H0⟩
  case round =>
    clear H0
    obtain ⟨j, A, c, s, rfl, rfl, hj, HS, HR, HB⟩ := hrel
    by_cases hlt : j < n
    · have hd : decide ((j : Int) < (n : Int)) = true := by simp; omega
      have hi0 : (0 : Int) ≤ (j : Int) := by omega
      have hj1 : j < l.length := by have := HN.out; omega
      have hj2 : j < ids.length := by have := HN.out; omega
      have hi1 : (j : Int) < (l.length : Int) := by omega
      have hi2 : (j : Int) < (ids.length : Int) := by omega
      obtain ⟨gt, ot, hAt, hgt, hct⟩ := IT.out.row.at TxA.len hj1
      obtain ⟨gk, ok, hAk, hgk, hck⟩ := IK.out.at encK_len hj2
      have HIn := Lib.hid (IT.out.each _ (List.getElem_mem hj1))
      obtain ⟨a, ha⟩ : ∃ a, l[j]'hj1 = a := ⟨_, rfl⟩
      obtain ⟨id, hid⟩ : ∃ id, ids[j]'hj2 = id := ⟨_, rfl⟩
      rw [ha] at hct HIn
      rw [hid] at hck
      subst hAt
      subst hAk
      have RT := Lib.hid (show RowC w gt (ot + j * 38) a.cells ∧ gt < w.heap.size from ⟨hct, hgt⟩)
      have RK := Lib.hid (show RowC w gk (ok + j * 32) (encK id) ∧ gk < w.heap.size from ⟨hck, hgk⟩)
      clear ha hid hct hck hgt hgk
      obtain ⟨h, hh⟩ : ∃ h : IntV .u32, h.1 = (j : Int) := ⟨⟨(j : Int), wf_u32.2 (by omega)⟩, rfl⟩
      have HH := Lib.hid hh
      have HZC := Lib.hid (show IntKind.u32.wrap (j : Int) = (j : Int) ∧ (j : Int) % 4294967296 = (j : Int) by rw [IntKind.wrap_u32]; omega)
      have HJ := Lib.hid (show j + 1 ≤ n ∧ j < n from ⟨by omega, hlt⟩)
      clear hh
      have CT := Lib.hid (RT.out.1.below HB.out.below RT.out.2)
      go_wp2_with ((with_reducible refine at_load 40 ?_); refine tyTxC.wpList_load rfl (.tmp 40) rfl gt (ot + j * 38) rfl a CT.out ?_)
      refine (coheavy_any A c s a _ (by have := HS.out.1; omega)).mono ?_
      rintro e w1 ⟨rfl, b1⟩
      have B1 := Lib.hid (HB.out.call b1)
      have R1 := Lib.hid ((HR.out.below b1).more b1.size)
      clear b1 HB HR CT
      obtain ⟨hv, hhv⟩ : ∃ hv, cheavyF s a.T = hv := ⟨_, rfl⟩
      rw [hhv]
      have HV := Lib.hid hhv
      clear hhv
      cases hv with
      | true =>
        go_wp2_with fail
        refine (SH.out _).mono ?_
        rintro e w2 ⟨rfl, b2⟩
        have B2 := Lib.hid (B1.out.call b2)
        go_wp2_with fail
        go_ret
        exact ⟨rfl, B2.out.below⟩
      | false =>
        have HW := Lib.hid (coheavy_no HV.out)
        go_wp2_with fail
        refine (SH.out _).mono ?_
        rintro e w2 ⟨rfl, b2⟩
        have B2 := Lib.hid (B1.out.call b2)
        have R2 := Lib.hid ((R1.out.below b2).more b2.size)
        clear b2 B1 R1
        go_wp2_with fail
        have BD := Lib.hid (show Holds w [(w.heap.size + 2, 32, (encKI .u32 p).toArray), (w.heap.size + 1, 27, (encK idt).toArray), (w.heap.size, 30, t.cells.toArray)] w2.drew from ⟨B2.out.below.drew, B2.out.blks⟩)
        have RD := Lib.hid (show RowIn encC 68 w2.drew w2.drew.heap.size A c s from R2.out.drewN 1)
        clear B2 R2
        refine wp_region_held_drew (S := fun W => RowC W gt (ot + j * 38) a.cells ∧ RowC W gk (ok + j * 32) (encK id)) (by kernel_rfl) ⟨RT.out.1.below BD.out.below RT.out.2, RK.out.1.below BD.out.below RK.out.2⟩ ?_
        intro hS
        refine wpAnyH_take (i := 0) (v := .slice A s.length c) rfl (by kernel_rfl) (by kernel_rfl) (by kernel_rfl) (fun _ _ _ h => h) (Or.inl ⟨by rfl, fun W _ => by go_simp; try with_reducible rfl⟩) hS ?_
        simp only [Act.put, List.getElem_toArray, List.getElem_cons_zero, List.setIfInBounds_toArray, List.set_cons_succ, List.set_cons_zero]
        refine wpAnyH_take (i := 1) (v := .slice (some ⟨gt, ot, none⟩) l.length ct) rfl (by kernel_rfl) (by kernel_rfl) (by kernel_rfl) (fun _ _ _ h => h) (Or.inl ⟨by rfl, fun W _ => by go_simp; try with_reducible rfl⟩) hS ?_
        simp only [Act.put, List.getElem_toArray, List.getElem_cons_zero, List.getElem_cons_succ, List.setIfInBounds_toArray, List.set_cons_succ, List.set_cons_zero]
        refine wpAnyH_take (i := 2) (v := .int .i64 j) rfl (by kernel_rfl) (by kernel_rfl) (by kernel_rfl) (fun _ _ _ h => h) (Or.inl ⟨by rfl, fun W _ => by go_simp; try with_reducible rfl⟩) hS ?_
        simp only [Act.put, List.getElem_toArray, List.getElem_cons_zero, List.getElem_cons_succ, List.setIfInBounds_toArray, List.set_cons_succ, List.set_cons_zero]
        refine wpAnyH_take (i := 3) (v := .pointer (some ⟨gt, ot + j * 38, none⟩)) rfl (by kernel_rfl) (by kernel_rfl) (by kernel_rfl) (fun _ _ _ h => h) (Or.inl ⟨by rfl, fun W _ => by go_simp; try with_reducible rfl⟩) hS ?_
        simp only [Act.put, List.getElem_toArray, List.getElem_cons_zero, List.getElem_cons_succ, List.setIfInBounds_toArray, List.set_cons_succ, List.set_cons_zero]
        refine wpAnyH_take (i := 4) (v := .agg a.cells.toArray) rfl (by kernel_rfl) (by kernel_rfl) (by kernel_rfl) (fun _ _ _ h => h) (tyTxC.yieldsIf_load (by rfl) (.tmp 52) rfl gt (ot + j * 38) rfl a (fun _ h => h.1)) hS ?_
        simp only [Act.put, List.getElem_toArray, List.getElem_cons_zero, List.getElem_cons_succ, List.setIfInBounds_toArray, List.set_cons_succ, List.set_cons_zero]
        refine wpAnyH_take (i := 5) (v := .slice (some ⟨gk, ok, none⟩) ids.length ck) rfl (by kernel_rfl) (by kernel_rfl) (by kernel_rfl) (fun _ _ _ h => h) (Or.inl ⟨by rfl, fun W _ => by go_simp; try with_reducible rfl⟩) hS ?_
        simp only [Act.put, List.getElem_toArray, List.getElem_cons_zero, List.getElem_cons_succ, List.setIfInBounds_toArray, List.set_cons_succ, List.set_cons_zero]
        refine wpAnyH_take (i := 6) (v := .int .i64 j) rfl (by kernel_rfl) (by kernel_rfl) (by kernel_rfl) (fun _ _ _ h => h) (Or.inl ⟨by rfl, fun W _ => by go_simp; try with_reducible rfl⟩) hS ?_
        simp only [Act.put, List.getElem_toArray, List.getElem_cons_zero, List.getElem_cons_succ, List.setIfInBounds_toArray, List.set_cons_succ, List.set_cons_zero]
        refine wpAnyH_take (i := 7) (v := .pointer (some ⟨gk, ok + j * 32, none⟩)) rfl (by kernel_rfl) (by kernel_rfl) (by kernel_rfl) (fun _ _ _ h => h) (Or.inl ⟨by rfl, fun W _ => by go_simp; try with_reducible rfl⟩) hS ?_
        simp only [Act.put, List.getElem_toArray, List.getElem_cons_zero, List.getElem_cons_succ, List.setIfInBounds_toArray, List.set_cons_succ, List.set_cons_zero]
        refine wpAnyH_take (i := 8) (v := .agg (encK id).toArray) rfl (by kernel_rfl) (by kernel_rfl) (by kernel_rfl) (fun _ _ _ h => h) (tyKc.yieldsIf_load (by rfl) (.tmp 56) rfl gk (ok + j * 32) rfl id (fun _ h => h.2)) hS ?_
        simp only [Act.put, List.getElem_toArray, List.getElem_cons_zero, List.getElem_cons_succ, List.setIfInBounds_toArray, List.set_cons_succ, List.set_cons_zero]
        refine wpAnyH_take (i := 9) (v := .int .i64 j) rfl (by kernel_rfl) (by kernel_rfl) (by kernel_rfl) (fun _ _ _ h => h) (Or.inl ⟨by rfl, fun W _ => by go_simp; try with_reducible rfl⟩) hS ?_
        simp only [Act.put, List.getElem_toArray, List.getElem_cons_zero, List.getElem_cons_succ, List.setIfInBounds_toArray, List.set_cons_succ, List.set_cons_zero]
        have hzc := HZC.out.1
        have hzd := HZC.out.2
        refine wpAnyH_take (i := 10) (v := .int .u32 j) rfl (by kernel_rfl) (by kernel_rfl) (by kernel_rfl) (fun _ _ _ h => h) (Or.inl ⟨by rfl, fun W _ => by go_simp; try with_reducible rfl⟩) hS ?_
        simp only [Act.put, List.getElem_toArray, List.getElem_cons_zero, List.getElem_cons_succ, List.setIfInBounds_toArray, List.set_cons_succ, List.set_cons_zero]
        refine wpAnyH_ready (rs := [11]) (by kernel_rfl) (by simp) ?_
        refine AllReadyH.cons rfl (fun Kq hK => ?_) AllReadyH.nil
        go_simp
        with_reducible refine (HP.out.at HH.out a id A c s _ (HIn.out.on BD.out.below (Nat.le_refl _)) RD.out (by have := HS.out.1; omega) (by have := HW.out; omega) (by have := HW.out; omega) HS.out.2).mono ?_
        have HC := Lib.hid (apply_cases s a.T id h)
        have HLN := Lib.hid (apply_len s a.T id h)
        obtain ⟨X, hX⟩ : ∃ X, applyR s a.T id h = X := ⟨_, rfl⟩
        rw [hX] at HLN ⊢
        have HX := Lib.hid hX
        clear hX
        obtain ⟨⟨u, sp⟩, er⟩ := X
        rintro e w3 ⟨A1, c1, A2, c2, rfl, r1, r2, b3⟩
        have B3 := Lib.hid (BD.out.call b3)
        have R3 := Lib.hid (show RowIn encC 68 w3 w3.heap.size A c s ∧ RowIn encC 68 w3 w3.heap.size A1 c1 u from ⟨(RD.out.below b3).more b3.size, r1⟩)
        clear b3 r1 r2 BD RD
        refine hK.out _ _ ⟨RT.out.1.below B3.out.below RT.out.2, RK.out.1.below B3.out.below RK.out.2⟩ (fun hS => ?_)
        clear hK Kq
        refine wpAnyH_take (i := 12) (v := .tuple #[.slice A1 u.length c1, .slice A2 sp.length c2, .int .i64 er]) rfl (by kernel_rfl) (by kernel_rfl) (by kernel_rfl) (fun _ _ _ h => h) (Or.inl ⟨by rfl, fun W _ => by go_simp; try with_reducible rfl⟩) hS ?_
        simp only [Act.put, List.getElem_toArray, List.getElem_cons_zero, List.getElem_cons_succ, List.setIfInBounds_toArray, List.set_cons_succ, List.set_cons_zero]
        refine wpAnyH_take (i := 13) (v := .slice A1 u.length c1) rfl (by kernel_rfl) (by kernel_rfl) (by kernel_rfl) (fun _ _ _ h => h) (Or.inl ⟨by rfl, fun W _ => by go_simp; try with_reducible rfl⟩) hS ?_
        simp only [Act.put, List.getElem_toArray, List.getElem_cons_zero, List.getElem_cons_succ, List.setIfInBounds_toArray, List.set_cons_succ, List.set_cons_zero]
        refine wpAnyH_take (i := 14) (v := .slice A2 sp.length c2) rfl (by kernel_rfl) (by kernel_rfl) (by kernel_rfl) (fun _ _ _ h => h) (Or.inl ⟨by rfl, fun W _ => by go_simp; try with_reducible rfl⟩) hS ?_
        simp only [Act.put, List.getElem_toArray, List.getElem_cons_zero, List.getElem_cons_succ, List.setIfInBounds_toArray, List.set_cons_succ, List.set_cons_zero]
        refine wpAnyH_take (i := 15) (v := .int .i64 er) rfl (by kernel_rfl) (by kernel_rfl) (by kernel_rfl) (fun _ _ _ h => h) (Or.inl ⟨by rfl, fun W _ => by go_simp; try with_reducible rfl⟩) hS ?_
        simp only [Act.put, List.getElem_toArray, List.getElem_cons_zero, List.getElem_cons_succ, List.setIfInBounds_toArray, List.set_cons_succ, List.set_cons_zero]
        refine wpAnyH_take (i := 16) (v := .slice A1 u.length c1) rfl (by kernel_rfl) (by kernel_rfl) (by kernel_rfl) (fun _ _ _ h => h) (Or.inl ⟨by rfl, fun W _ => by go_simp; try with_reducible rfl⟩) hS ?_
        simp only [Act.put, List.getElem_toArray, List.getElem_cons_zero, List.getElem_cons_succ, List.setIfInBounds_toArray, List.set_cons_succ, List.set_cons_zero]
        refine wpAnyH_take (i := 17) (v := .slice A2 sp.length c2) rfl (by kernel_rfl) (by kernel_rfl) (by kernel_rfl) (fun _ _ _ h => h) (Or.inl ⟨by rfl, fun W _ => by go_simp; try with_reducible rfl⟩) hS ?_
        simp only [Act.put, List.getElem_toArray, List.getElem_cons_zero, List.getElem_cons_succ, List.setIfInBounds_toArray, List.set_cons_succ, List.set_cons_zero]
        refine wpAnyH_take (i := 18) (v := .int .i64 er) rfl (by kernel_rfl) (by kernel_rfl) (by kernel_rfl) (fun _ _ _ h => h) (Or.inl ⟨by rfl, fun W _ => by go_simp; try with_reducible rfl⟩) hS ?_
        simp only [Act.put, List.getElem_toArray, List.getElem_cons_zero, List.getElem_cons_succ, List.setIfInBounds_toArray, List.set_cons_succ, List.set_cons_zero]
        refine wpAnyH_done (by kernel_rfl) ?_ _
        clear hS
        rcases HC.out with (e1 | e1) | ⟨m', sp', u', _, _, e1⟩
        · have e2 : ((u, sp), er) = ((([], []) : List CoinV × List CoinV), (160 : Int)) := HX.out.symm.trans e1
          simp only [Prod.mk.injEq] at e2
          obtain ⟨⟨rfl, rfl⟩, rfl⟩ := e2
          have B4 := Lib.hid B3.out
          have R4 := Lib.hid R3.out.1
          clear e1 HX HLN B3 R3 HC
          go_wp2_with fail
          go_roundw
          case rel => exact ⟨j + 1, A, c, s, rfl, by go_num, HJ.out.1, HS, R4, B4⟩
          case measure => have := HJ.out; simp [intOf]; omega
        · have e2 : ((u, sp), er) = ((([], []) : List CoinV × List CoinV), (4 : Int)) := HX.out.symm.trans e1
          simp only [Prod.mk.injEq] at e2
          obtain ⟨⟨rfl, rfl⟩, rfl⟩ := e2
          have B4 := Lib.hid B3.out
          have R4 := Lib.hid R3.out.1
          clear e1 HX HLN B3 R3 HC
          go_wp2_with fail
          go_roundw
          case rel => exact ⟨j + 1, A, c, s, rfl, by go_num, HJ.out.1, HS, R4, B4⟩
          case measure => have := HJ.out; simp [intOf]; omega
        · have e2 : ((u, sp), er) = ((u', sp'), (0 : Int)) := HX.out.symm.trans e1
          simp only [Prod.mk.injEq] at e2
          obtain ⟨⟨rfl, rfl⟩, rfl⟩ := e2
          have HAB := Lib.hid (show u.length ≤ 160 ∧ RisesK u from ⟨by have := HLN.out; have := HS.out.1; have := HW.out; have := HV.out; have := (coheavy_no HV.out).1; simp only at *; omega, (apply_back HS.out.2 HX.out).1⟩)
          have B4 := Lib.hid B3.out
          have R4 := Lib.hid R3.out.2
          clear e1 HX HLN B3 R3 HC
          go_wp2_with fail
          go_roundw
          case rel => exact ⟨j + 1, A1, c1, u, rfl, by go_num, HJ.out.1, HAB, R4, B4⟩
          case measure => have := HJ.out; simp [intOf]; omega
    · have hd : decide ((j : Int) < (n : Int)) = false := by simp; omega
      go_wp2_with (first
          | ((with_reducible refine at_load 7 ?_); refine tyTx.wpList_load rfl (.tmp 7) rfl (w.heap.size) (0) rfl (t) (RowC.of_blk (HB.out.at (x := (w.heap.size, 30, t.cells.toArray)) (by simp))) ?_))
      refine (coheavy_any A c s t _ (by have := HS.out.1; omega)).mono ?_
      rintro e w1 ⟨rfl, b1⟩
      have B1 := Lib.hid (HB.out.call b1)
      have R1 := Lib.hid ((HR.out.below b1).more b1.size)
      clear b1 HB HR hd hlt hj
      obtain ⟨hv, hhv⟩ : ∃ hv, cheavyF s t.T = hv := ⟨_, rfl⟩
      rw [hhv]
      have HV := Lib.hid hhv
      clear hhv
      cases hv with
      | true =>
        go_wp2_with fail
        refine (SH.out _).mono ?_
        rintro e w2 ⟨rfl, b2⟩
        have B2 := Lib.hid (B1.out.call b2)
        go_wp2_with fail
        go_ret
        exact ⟨rfl, B2.out.below⟩
      | false =>
        have HW := Lib.hid (coheavy_no HV.out)
        go_wp2_with fail
        refine (SH.out _).mono ?_
        rintro e w2 ⟨rfl, b2⟩
        have B2 := Lib.hid (B1.out.call b2)
        have R2 := Lib.hid ((R1.out.below b2).more b2.size)
        clear b2 B1 R1
        go_wp2_with (first
            | ((with_reducible refine at_load 7 ?_); refine tyTx.wpList_load rfl (.tmp 7) rfl (w.heap.size) (0) rfl (t) (RowC.of_blk (B2.out.at (x := (w.heap.size, 30, t.cells.toArray)) (by simp))) ?_)
            | ((with_reducible refine at_load 8 ?_); refine tyKc.wpList_load rfl (.tmp 8) rfl (w.heap.size + 1) (0) rfl (idt) (RowC.of_blk (B2.out.at (x := (w.heap.size + 1, 27, (encK idt).toArray)) (by simp))) ?_))
        refine (HP.out t idt ⟨99, by decide⟩ A c s _ (II.out.on B2.out.below (Nat.le_refl _)) R2.out (by have := HS.out.1; omega) (by have := HW.out; omega) (by have := HW.out; omega) HS.out.2).mono ?_
        have HC := Lib.hid (apply_cases s t.T idt ⟨99, by decide⟩)
        have HLN := Lib.hid (apply_len s t.T idt ⟨99, by decide⟩)
        obtain ⟨X, hX⟩ : ∃ X, applyR s t.T idt ⟨99, by decide⟩ = X := ⟨_, rfl⟩
        rw [hX] at HLN ⊢
        have HX := Lib.hid hX
        clear hX
        obtain ⟨⟨u, sp⟩, er⟩ := X
        rintro e w3 ⟨A1, c1, A2, c2, rfl, r1, r2, b3⟩
        have B3 := Lib.hid (B2.out.call b3)
        have R3 := Lib.hid (show RowIn encC 68 w3 w3.heap.size A c s ∧ RowIn encC 68 w3 w3.heap.size A1 c1 u ∧ RowIn encC 68 w3 w3.heap.size A2 c2 sp from ⟨(R2.out.below b3).more b3.size, r1, r2⟩)
        clear b3 r1 r2 B2 R2
        rcases HC.out with (e1 | e1) | ⟨m', sp', u', _, _, e1⟩
        · have e2 : ((u, sp), er) = ((([], []) : List CoinV × List CoinV), (160 : Int)) := HX.out.symm.trans e1
          simp only [Prod.mk.injEq] at e2
          obtain ⟨⟨rfl, rfl⟩, rfl⟩ := e2
          clear e1 HX HLN HC
          go_wp2_with fail
          go_ret
          exact ⟨rfl, B3.out.below⟩
        · have e2 : ((u, sp), er) = ((([], []) : List CoinV × List CoinV), (4 : Int)) := HX.out.symm.trans e1
          simp only [Prod.mk.injEq] at e2
          obtain ⟨⟨rfl, rfl⟩, rfl⟩ := e2
          clear e1 HX HLN HC
          go_wp2_with fail
          go_ret
          exact ⟨rfl, B3.out.below⟩
        · have e2 : ((u, sp), er) = ((u', sp'), (0 : Int)) := HX.out.symm.trans e1
          simp only [Prod.mk.injEq] at e2
          obtain ⟨⟨rfl, rfl⟩, rfl⟩ := e2
          have HAB := Lib.hid (show u.length ≤ 160 ∧ sp.length ≤ 160 by have := HLN.out; have := (coheavy_no HV.out); simp only at *; omega)
          clear e1 HLN HC
          go_wp2_with (first
              | ((with_reducible refine at_load 9 ?_); refine tyPc.wpList_load rfl (.tmp 9) rfl (w.heap.size + 2) (0) rfl (p) (RowC.of_blk (B3.out.at (x := (w.heap.size + 2, 32, (encKI .u32 p).toArray)) (by simp))) ?_))
          refine (HF.out A c s p _ (by have := HS.out.1; omega) R3.out.1).mono ?_
          rintro e w4 ⟨rfl, b4⟩
          obtain ⟨fs, hfs⟩ : ∃ fs, findK s p = fs := ⟨_, rfl⟩
          rw [hfs]
          have FS := Lib.hid hfs
          clear hfs
          have B4 := Lib.hid (B3.out.call b4)
          have R4 := Lib.hid (show RowIn encC 68 w4 w4.heap.size A1 c1 u ∧ RowIn encC 68 w4 w4.heap.size A2 c2 sp from ⟨(R3.out.2.1.below b4).more b4.size, (R3.out.2.2.below b4).more b4.size⟩)
          clear b4 B3 R3
          obtain ⟨cs, hcs⟩ : ∃ cs, fs.getD zeroCoin = cs := ⟨_, rfl⟩
          obtain ⟨qs, hqs⟩ : ∃ qs, fs.isSome = qs := ⟨_, rfl⟩
          rw [hcs, hqs]
          have CS := Lib.hid (And.intro hcs hqs)
          clear hcs hqs
          go_wp2_with (first
              | ((with_reducible refine at_store 20 92 ?_); refine tyCoc.wpList_store rfl (.tmp 20) (.tmp 92) rfl rfl w4.heap.size (cs) rfl rfl 49 _ (Blk.new w4 49 Z0) (by rw [HZS.out]) ?_; intro w5 o5 b5
                 have B5 := Lib.hid (B4.out.put o5 b5)
                 have Q5 := Lib.hid (show Below w4.heap.size w4 w5 from ((Below.refl _ _).alloc (Nat.le_refl _) _).trans (o5.below (by simp)))
                 have R5 := Lib.hid (show RowIn encC 68 w5 w5.heap.size A1 c1 u ∧ RowIn encC 68 w5 w5.heap.size A2 c2 sp from ⟨(R4.out.1.below Q5.out).more Q5.out.size, (R4.out.2.below Q5.out).more Q5.out.size⟩)
                 clear o5 b5 R4 Q5)
              | ((with_reducible refine at_load 9 ?_); refine tyPc.wpList_load rfl (.tmp 9) rfl (w.heap.size + 2) (0) rfl (p) (RowC.of_blk (B5.out.at (x := (w.heap.size + 2, 32, (encKI .u32 p).toArray)) (by simp))) ?_))
          refine (HF.out A1 c1 u p _ (by have := HAB.out; omega) R5.out.1).mono ?_
          rintro e w6 ⟨rfl, b6⟩
          obtain ⟨fu, hfu⟩ : ∃ fu, findK u p = fu := ⟨_, rfl⟩
          rw [hfu]
          have FU := Lib.hid hfu
          clear hfu
          have B6 := Lib.hid (B5.out.call b6)
          have R6 := Lib.hid (show RowIn encC 68 w6 w6.heap.size A1 c1 u ∧ RowIn encC 68 w6 w6.heap.size A2 c2 sp from ⟨(R5.out.1.below b6).more b6.size, (R5.out.2.below b6).more b6.size⟩)
          clear b6 B5 R5
          obtain ⟨cu, hcu⟩ : ∃ cu, fu.getD zeroCoin = cu := ⟨_, rfl⟩
          obtain ⟨qu, hqu⟩ : ∃ qu, fu.isSome = qu := ⟨_, rfl⟩
          rw [hcu, hqu]
          have CU := Lib.hid (And.intro hcu hqu)
          clear hcu hqu
          go_wp2_with (first
              | ((with_reducible refine at_store 22 98 ?_); refine tyCoc.wpList_store rfl (.tmp 22) (.tmp 98) rfl rfl w6.heap.size (cu) rfl rfl 49 _ (Blk.new w6 49 Z0) (by rw [HZS.out]) ?_; intro w7 o7 b7
                 have B7 := Lib.hid (B6.out.put o7 b7)
                 have Q7 := Lib.hid (show Below w6.heap.size w6 w7 from ((Below.refl _ _).alloc (Nat.le_refl _) _).trans (o7.below (by simp)))
                 have R7 := Lib.hid (show RowIn encC 68 w7 w7.heap.size A1 c1 u ∧ RowIn encC 68 w7 w7.heap.size A2 c2 sp from ⟨(R6.out.1.below Q7.out).more Q7.out.size, (R6.out.2.below Q7.out).more Q7.out.size⟩)
                 clear o7 b7 R6 Q7))
          obtain ⟨g20, hg20⟩ : ∃ g, w4.heap.size = g := ⟨_, rfl⟩
          obtain ⟨g22, hg22⟩ : ∃ g, w6.heap.size = g := ⟨_, rfl⟩
          simp only [hg20, hg22] at B7 ⊢
          clear hg20 hg22
          go_loopw [24, 25] (fun sg si wr => ∃ i : Nat, sg = .bool ((sp.take i).any fun c => decide (c.at_ = p)) ∧ si = .int .i64 i ∧ i ≤ sp.length ∧ Hid (RowIn encC 68 wr wr.heap.size A2 c2 sp) ∧ Hid (Holds w ((g22, 49, (encC cu).toArray) :: (g20, 49, (encC cs).toArray) :: [(w.heap.size + 2, 32, (encKI .u32 p).toArray), (w.heap.size + 1, 27, (encK idt).toArray), (w.heap.size, 30, t.cells.toArray)]) wr)) (fun _ si _ => sp.length - (intOf si).toNat)
          case atStart => exact ⟨0, rfl, rfl, by omega, Lib.hid R7.out.2, B7⟩
          case round =>
            clear B7 R7
            obtain ⟨i, rfl, rfl, hi, RS, BS⟩ := hrel
            by_cases hlt2 : i < sp.length
            · have hd : decide ((i : Int) < (sp.length : Int)) = true := by simp; omega
              have hsp : sp.length ≤ 160 := HAB.out.2
              have HI := Lib.hid (show i + 1 ≤ sp.length ∧ i < sp.length from ⟨by omega, hlt2⟩)
              have HAT := Lib.hid (any_take sp p i hlt2)
              obtain ⟨b, hb⟩ : ∃ b, ((sp.take i).any fun c => decide (c.at_ = p)) = b := ⟨_, rfl⟩
              rw [hb] at HAT ⊢
              clear hb
              obtain ⟨g, o, hA, hg, hc⟩ := RS.out.at encC_len hlt2
              obtain ⟨x, hx⟩ : ∃ x, sp[i]'hlt2 = x := ⟨_, rfl⟩
              rw [hx] at hc HAT
              have HA2 := Lib.hid hA
              have hi0 : (0 : Int) ≤ (i : Int) := by omega
              have hi1 : (i : Int) < (sp.length : Int) := by omega
              have RX := Lib.hid (show ∀ W, From wr W → RowC W g (o + i * 68) (encKI .u32 x.at_) from fun W hC => RowC.co_at (hc.below hC.below hg))
              have RP := Lib.hid (show ∀ W, From wr W → RowC W (w.heap.size + 2) 0 (encKI .u32 p) from fun W hC => RowC.of_blk (below_blk hC.below (BS.out.at (x := (w.heap.size + 2, 32, (encKI .u32 p).toArray)) (by simp)) (BS.out.lt (x := (w.heap.size + 2, 32, (encKI .u32 p).toArray)) (by simp))))
              obtain ⟨q, hq⟩ : ∃ q, decide (x.at_ = p) = q := ⟨_, rfl⟩
              rw [hq] at HAT
              have HQ := Lib.hid hq
              clear hx hq hc hg
              subst hA
              cases b with
              | true =>
                go_wp2_with fail
                refine wp_region_from (by kernel_rfl) (by kernel_rfl) ?_
                repeat (first
                  | go_big_quiet_skip
                  | ((with_reducible refine at_qload 111 ?_); refine tyPt.wpQuiet_load (by rfl) (.tmp 111) rfl g (o + i * 68) rfl x.at_ RX.out ?_; simp only [Act.put, List.setIfInBounds_toArray, List.set_cons_succ, List.set_cons_zero])
                  | ((with_reducible refine at_qload 9 ?_); refine tyPt.wpQuiet_load (by rfl) (.tmp 9) rfl (w.heap.size + 2) 0 rfl p RP.out ?_; simp only [Act.put, List.setIfInBounds_toArray, List.set_cons_succ, List.set_cons_zero])
                  | ((with_reducible refine at_qeql 112 113 ?_); refine wpQuiet_eql_row (by rfl) 32 32 (.tmp 112) (.tmp 113) rfl (encKI .u32 x.at_).toArray (encKI .u32 p).toArray rfl rfl (by kernel_rfl) q (fun V => (eqPt_run _ _ V).trans (by rw [HQ.out])) ?_; simp only [Act.put, List.setIfInBounds_toArray, List.set_cons_succ, List.set_cons_zero])
                  | (go_big_quiet_want; go_big_quiet_op; refine ⟨_, fun _ _ => by with_reducible rfl, ?_⟩; go_big_quiet_on)
                  | go_big_quiet_step (fail))
                refine wpQuiet_nil ?_
                intro w9 hC
                have B9 := Lib.hid (BS.out.call hC.below)
                have R9 := Lib.hid ((RS.out.below hC.below).more hC.below.size)
                clear hC RX RP BS RS
                go_wp2_with fail
                go_roundw
                case rel => exact ⟨i + 1, by rw [HAT.out]; rfl, by go_num, HI.out.1, R9, B9⟩
                case measure => have := HI.out; simp [intOf]; omega
              | false =>
                go_wp2_with fail
                refine wp_region_from (by kernel_rfl) (by kernel_rfl) ?_
                repeat (first
                  | go_big_quiet_skip
                  | ((with_reducible refine at_qload 111 ?_); refine tyPt.wpQuiet_load (by rfl) (.tmp 111) rfl g (o + i * 68) rfl x.at_ RX.out ?_; simp only [Act.put, List.setIfInBounds_toArray, List.set_cons_succ, List.set_cons_zero])
                  | ((with_reducible refine at_qload 9 ?_); refine tyPt.wpQuiet_load (by rfl) (.tmp 9) rfl (w.heap.size + 2) 0 rfl p RP.out ?_; simp only [Act.put, List.setIfInBounds_toArray, List.set_cons_succ, List.set_cons_zero])
                  | ((with_reducible refine at_qeql 112 113 ?_); refine wpQuiet_eql_row (by rfl) 32 32 (.tmp 112) (.tmp 113) rfl (encKI .u32 x.at_).toArray (encKI .u32 p).toArray rfl rfl (by kernel_rfl) q (fun V => (eqPt_run _ _ V).trans (by rw [HQ.out])) ?_; simp only [Act.put, List.setIfInBounds_toArray, List.set_cons_succ, List.set_cons_zero])
                  | (go_big_quiet_want; go_big_quiet_op; refine ⟨_, fun _ _ => by with_reducible rfl, ?_⟩; go_big_quiet_on)
                  | go_big_quiet_step (fail))
                refine wpQuiet_nil ?_
                intro w9 hC
                have B9 := Lib.hid (BS.out.call hC.below)
                have R9 := Lib.hid ((RS.out.below hC.below).more hC.below.size)
                clear hC RX RP BS RS
                go_wp2_with fail
                go_roundw
                case rel => exact ⟨i + 1, by rw [HAT.out]; rfl, by go_num, HI.out.1, R9, B9⟩
                case measure => have := HI.out; simp [intOf]; omega
            · have hd : decide ((i : Int) < (sp.length : Int)) = false := by simp; omega
              obtain rfl : i = sp.length := by omega
              have hany : ((sp.take sp.length).any fun c => decide (c.at_ = p)) = sp.any fun c => decide (c.at_ = p) := by rw [List.take_of_length_le (Nat.le_refl _)]
              rw [hany]
              obtain ⟨b, hb⟩ : ∃ b, (sp.any fun c => decide (c.at_ = p)) = b := ⟨_, rfl⟩
              rw [hb]
              have HG := Lib.hid hb
              clear hb hany
              cases fs with
              | none =>
                have hqs : qs = false := CS.out.2.symm
                subst hqs
                cases fu with
                | none =>
                  have hqu : qu = false := CU.out.2.symm
                  subst hqu
                  go_wp2_with fail
                  go_ret
                  exact ⟨rfl, BS.out.below⟩
                | some d =>
                  have hqu : qu = true := CU.out.2.symm
                  subst hqu
                  have hcu : d = cu := CU.out.1
                  have HDI := Lib.hid (show cu.at_.1 = idt by rw [← hcu]; exact apply_new HX.out FS.out FU.out)
                  clear hcu
                  go_wp2_with (first
                      | ((with_reducible refine at_loadg 122 ?_); refine tyKc.wpList_load (by rfl) (.tmp 122) rfl (g22) (0) rfl (cu.at_.1) (RowC.ki_key (RowC.co_at (RowC.of_blk (BS.out.at (x := (g22, 49, (encC cu).toArray)) (by simp))))) ?_)
                      | ((with_reducible refine at_loadg 8 ?_); refine tyKc.wpList_load (by rfl) (.tmp 8) rfl (w.heap.size + 1) (0) rfl (idt) (RowC.of_blk (BS.out.at (x := (w.heap.size + 1, 27, (encK idt).toArray)) (by simp))) ?_)
                      | ((with_reducible refine at_eqlg 123 124 ?_); refine wpList_eql_rowg (by rfl) 27 27 (.tmp 123) (.tmp 124) rfl (encK cu.at_.1).toArray (encK idt).toArray rfl rfl (by kernel_rfl) true (fun V => (eqKy_run _ _ V).trans (by rw [HDI.out]; simp)) ?_; simp only [Act.put, List.setIfInBounds_toArray, List.set_cons_succ, List.set_cons_zero]))
                  go_ret
                  exact ⟨rfl, BS.out.below⟩
              | some d0 =>
                have hqs : qs = true := CS.out.2.symm
                subst hqs
                have HD0 := Lib.hid (show d0 = cs from CS.out.1)
                cases b with
                | true =>
                  go_wp2_with fail
                  go_ret
                  exact ⟨rfl, BS.out.below⟩
                | false =>
                  have HKP := Lib.hid (apply_kept HX.out FS.out (any_none HG.out))
                  have hfe : fu = some d0 := FU.out.symm.trans HKP.out
                  have hqu : qu = true := by rw [← CU.out.2, hfe]; rfl
                  subst hqu
                  have HEQ := Lib.hid (show cu = cs by rw [← CU.out.1, hfe, ← HD0.out]; rfl)
                  clear hfe
                  go_wp2_with (first
                      | ((with_reducible refine at_loadg 22 ?_); refine tyCoc.wpList_load (by rfl) (.tmp 22) rfl (g22) (0) rfl (cu) (RowC.of_blk (BS.out.at (x := (g22, 49, (encC cu).toArray)) (by simp))) ?_)
                      | ((with_reducible refine at_loadg 20 ?_); refine tyCoc.wpList_load (by rfl) (.tmp 20) rfl (g20) (0) rfl (cs) (RowC.of_blk (BS.out.at (x := (g20, 49, (encC cs).toArray)) (by simp))) ?_)
                      | ((with_reducible refine at_eqlg 131 132 ?_); refine wpList_eql_rowg (by rfl) 49 49 (.tmp 131) (.tmp 132) rfl (encC cu).toArray (encC cs).toArray rfl rfl (by kernel_rfl) true (fun V => (eqCo_run _ _ V).trans (by rw [HEQ.out]; simp)) ?_; simp only [Act.put, List.setIfInBounds_toArray, List.set_cons_succ, List.set_cons_zero]))
                  go_ret
                  exact ⟨rfl, BS.out.below⟩
end Go.Proofs.Ytkjgmhamglhggaa
