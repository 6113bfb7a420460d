/- CostFair's walk. Written by genLC14g.py. -/
import Derived.Test.YtpoejbfcioijhaaLCoF
namespace Go.Proofs.Ytpoejbfcioijhaa
open Go.RowKit
theorem fair_rng (x : IntV .u8) : 0 ≤ x.1.tmod 9 ∧ x.1.tmod 9 ≤ 8 := by
  have h := wf_u8q x
  have h1 := Int.tmod_nonneg (9 : Int) h.1
  have h2 := Int.tmod_lt_of_pos x.1 (show (0 : Int) < 9 by decide)
  omega
def wFair (x : IntV .u8) : IntV .i64 := ⟨x.1.tmod 9 + 1, by have := fair_rng x; rw [wf_i64]; omega⟩
theorem wFair_rng (x : IntV .u8) : 1 ≤ (wFair x).1 ∧ (wFair x).1 ≤ 9 := by have := fair_rng x; unfold wFair; simp only; omega
theorem fair_pos (l : List (IntV .u8)) : Pos (l.map wFair) := fun x hx => by
  obtain ⟨y, _, rfl⟩ := List.mem_map.1 hx
  exact (wFair_rng y).1
theorem fair_top (l : List (IntV .u8)) : ∀ x ∈ l.map wFair, x.1 ≤ 1000 := fun x hx => by
  obtain ⟨y, _, rfl⟩ := List.mem_map.1 hx
  have := (wFair_rng y).2
  omega
/-- the counts, as cells -/
def cntV (i : Int) (l : List (IntV .i64)) : Array Value := ((cntL i l).map (Value.int .i64)).toArray
theorem cntV_size (i : Int) (l : List (IntV .i64)) : (cntV i l).size = l.length := by unfold cntV; rw [List.size_toArray, List.length_map, cntL_len]
theorem cntV_made {l : List (IntV .i64)} (h : Pos l) : madeCells #[.int .i64 0] l.length = cntV 0 l := by
  apply Array.toList_inj.1
  rw [toList_madeCells_one]
  unfold cntV
  rw [cntL_zero h, List.map_replicate]
theorem cntV_at {i : Int} {l : List (IntV .i64)} {k : Nat} (hk : k < l.length) : (cntV i l)[k]? = some (.int .i64 ((cntL i l).getD k 0)) := by
  unfold cntV
  have hk' : k < (cntL i l).length := by rw [cntL_len]; exact hk
  rw [List.getElem?_toArray, List.getElem?_map, List.getElem?_eq_getElem hk', List.getD_eq_getElem?_getD, List.getElem?_eq_getElem hk']
  rfl
theorem cntV_next {l : List (IntV .i64)} {i : Int} (h : Pos l) (h0 : 0 ≤ i) (h1 : i < sumI l) : (cntV i l).setIfInBounds (pickN i l) (.int .i64 ((cntL i l).getD (pickN i l) 0 + 1)) = cntV (i + 1) l := by
  unfold cntV
  rw [cntL_next h h0 h1]
  apply Array.toList_inj.1
  simp [List.map_set]
theorem cntV_full {l : List (IntV .i64)} (h : Pos l) : cntV (sumI l) l = (cellsOf (enc1 .i64) l).toArray := by
  unfold cntV
  rw [cntL_full h]
  congr 1
  clear h
  induction l with
  | nil => rfl
  | cons z l ih => simpa [cellsOf, enc1] using ih
theorem cnt_top {l : List (IntV .i64)} {i : Int} {k : Nat} (h : Pos l) (h0 : 0 ≤ i) (hk : k < l.length) : 0 ≤ (cntL i l).getD k 0 ∧ (cntL i l).getD k 0 ≤ i := by
  have hk' : k < (cntL i l).length := by rw [cntL_len]; exact hk
  rw [List.getD_eq_getElem?_getD, List.getElem?_eq_getElem hk']
  exact cntL_rng l i h h0 _ (List.getElem_mem hk')
set_option maxRecDepth 20000 in
set_option maxHeartbeats 4000000 in
theorem cosFair_h (HPI : PickOk) (_ : SumOk) (HCO : CostTOk) (A : Option Addr) (c : Nat) (l : List (IntV .u8)) (a : IntV .u64) (w : World) (_ : RowIn (enc1 .u8) 1 w w.heap.size A c l) (hn : 30 < l.length ∨ l.length = 0) :
    Calls Try.prog 4 #[.slice A l.length c, .int .u64 a.1] w fun e w' => e = .returned (.bool true) ∧ Below w.heap.size w w' := by
  have SH := Lib.hid (fun W => cosshown_any HPI HCO W)
  clear HPI HCO
  obtain ⟨n, hnn⟩ : ∃ n, l.length = n := ⟨_, rfl⟩
  rw [hnn] at hn ⊢
  clear hnn
  rcases hn with hn | hn
  · have hd : decide ((30 : Int) < (n : Int)) = true := by simp; omega
    go_enter Try.func4, Try.ntmps4
    go_wp2_with fail
    refine (SH.out _).mono ?_
    rintro e w1 ⟨rfl, b1⟩
    have B1 := Lib.hid b1
    clear b1
    go_wp2_with fail
    go_ret
    exact ⟨rfl, B1.out⟩
  · subst hn
    go_enter Try.func4, Try.ntmps4
    go_wp2_with fail
    refine (SH.out _).mono ?_
    rintro e w1 ⟨rfl, b1⟩
    have B1 := Lib.hid b1
    clear b1
    go_wp2_with fail
    go_ret
    exact ⟨rfl, B1.out⟩
set_option maxRecDepth 20000 in
set_option maxHeartbeats 4000000 in
theorem cosFair_m (HPI : PickOk) (HSU : SumOk) (HCO : CostTOk) (A : Option Addr) (c : Nat) (l : List (IntV .u8)) (a : IntV .u64) (w : World) (hl : RowIn (enc1 .u8) 1 w w.heap.size A c l) (h0 : 0 < l.length) (hn : l.length ≤ 30) :
    Calls Try.prog 4 #[.slice A l.length c, .int .u64 a.1] w fun e w' => e = .returned (.bool true) ∧ Below w.heap.size w w' := by
  have SH := Lib.hid (fun W => cosshown_any HPI HCO W)
  have HP := Lib.hid HPI
  have HSM := Lib.hid HSU
  have HL := Lib.hid hl
  have HN := Lib.hid (And.intro h0 hn)
  have hmk : ∀ W, (Instr.makeSlice 30 (.int .i64 (l.length : Int)) (.int .i64 (l.length : Int))).run Try.prog W = .ok (.slice (some ⟨W.heap.size, 0, none⟩) l.length l.length) (W.alloc (.cells (cntV 0 (l.map wFair)) 2)) := fun W => by
    have hlen : (l.map wFair).length = l.length := List.length_map ..
    rw [← cntV_made (fair_pos l), hlen]
    exact run_make_one _ _ _ 8 Try.underlying30 coInfo rfl (by omega) .i64 .i64 l.length (by omega) W
  have hd : decide ((30 : Int) < (l.length : Int)) = false := by simp; omega
  have he : ((l.length : Int) == 0) = false := beq_eq_false_iff_ne.mpr (by omega)
  clear HPI HSU HCO hl
  go_enter Try.func4, Try.ntmps4
  go_wp2_with fail
  refine (SH.out _).mono ?_
  rintro e w1 ⟨rfl, b1⟩
  have B1 := Lib.hid b1
  clear b1
  go_wp2_with fail
  have O0 := Lib.hid (show World.ownsRow (w1.alloc (.cells #[] 2)) w1.heap.size 2 1 (.slice (some ⟨w1.heap.size, 0, none⟩) 0 0) 0 (cellsOf (enc1 .i64) ((l.take 0).map wFair)) from ⟨by simp [cellsOf], .inr ⟨w1.heap.size, 0, #[], rfl, Nat.le_refl _, Blk.new w1 2 #[], Nat.le_refl _, Nat.zero_le _, by simp, by simp [cellsOf]⟩⟩)
  have B2 := Lib.hid (show Below w.heap.size w (w1.alloc (.cells #[] 2)) from B1.out.trans (((Below.refl _ _).alloc (Nat.le_refl _) _).mono B1.out.size))
  have HS1 := Lib.hid (show w1.heap.size ≤ (w1.alloc (.cells #[] 2)).heap.size from by simp)
  go_loopw [5, 6, 7] (fun so ss si wm => ∃ (j : Nat) (s : Int), si = .int .i64 j ∧ ss = .int .i64 s ∧ j ≤ l.length ∧ Hid (s = sumI ((l.take j).map wFair)) ∧ Hid (wm.ownsRow w1.heap.size 2 1 so j (cellsOf (enc1 .i64) ((l.take j).map wFair))) ∧ Hid (Below w.heap.size w wm) ∧ Hid (w1.heap.size ≤ wm.heap.size)) (fun _ _ si _ => l.length - (intOf si).toNat)
  case atStart => exact ⟨0, 0, rfl, rfl, Nat.zero_le _, Lib.hid (by simp [sumI]), O0, B2, HS1⟩
  case round =>
    clear O0 B2 HS1
    obtain ⟨wm, rfl⟩ : ∃ q, q = wr := ⟨_, rfl⟩
    obtain ⟨j, s, rfl, rfl, hj, HS, HO, HB, HSZ⟩ := hrel
    have HSR := Lib.hid (show 0 ≤ s ∧ s ≤ 270 ∧ (0 < j → 1 ≤ s) by
      have h1 := (fair_pos (l.take j)).sum
      have h2 := sumI_le (c := 9) (l := (l.take j).map wFair) (fun x hx => by obtain ⟨y, _, rfl⟩ := List.mem_map.1 hx; exact (wFair_rng y).2)
      have h3 := HN.out
      rw [← HS.out, len_of l j hj] at h1 h2
      omega)
    by_cases hlt : j < l.length
    · have hd : decide ((j : Int) < (l.length : Int)) = true := by simp; omega
      have HLT := Lib.hid hlt
      have hi0 : (0 : Int) ≤ (j : Int) := by omega
      have hi1 : (j : Int) < (l.length : Int) := by omega
      obtain ⟨g, o, hA, hg, hc⟩ := (HL.out.below HB.out).at (enc1_len _) HLT.out
      obtain ⟨x, hx⟩ : ∃ x, l[j]'HLT.out = x := ⟨_, rfl⟩
      have HXX := Lib.hid hx
      rw [hx] at hc
      have HG := Lib.hid hg
      have k1 : wm.cell? ⟨g, o + j, none⟩ = some (.int .u8 x.1) := by have := hc.head; simpa using this
      have hxr := wf_u8q x
      have hfr := fair_rng x
      have hsr := HSR.out
      obtain ⟨v, hv⟩ : ∃ v, x.1 = v := ⟨_, rfl⟩
      obtain ⟨m, hm⟩ : ∃ m, v.tmod 9 = m := ⟨_, rfl⟩
      have HV := Lib.hid (show (wFair x).1 = m + 1 by rw [← hm, ← hv]; rfl)
      rw [hv] at k1 hxr hfr
      rw [hm] at hfr
      have a1 : IntKind.i64.wrap v = v := by rw [IntKind.wrap_i64]; omega
      have a2 : IntKind.i64.wrap (m + 1) = m + 1 := by rw [IntKind.wrap_i64]; omega
      have a3 : IntKind.i64.wrap (s + (m + 1)) = s + (m + 1) := by rw [IntKind.wrap_i64]; omega
      have HMC := Lib.hid (more_cells (f := wFair) l j HLT.out)
      have HMS := Lib.hid (more_sum (f := wFair) l j HLT.out)
      rw [hx] at HMC HMS
      rw [HV.out] at HMC HMS
      subst hA
      clear hc hx hg hv hxr hsr hfr
      go_wp2_with (first
        | ((with_reducible refine at_appendg 48 39 47 ?_); refine wpList_append1g rfl (.tmp 39) (.tmp 47) 30 rfl w1.heap.size 2 _ 8 Try.underlying30 coInfo rfl (by omega) _ j _ rfl (HO.out.alloc _) _ 1 (.int .i64 (m + 1)) rfl (Blk.new _ _ _) rfl (by have := HLT.out; have := HN.out; omega) (by have := HSZ.out; simp; omega) ?_; intro v2 w2 o2 g2 _
           rw [HMC.out] at o2
           have O2 := Lib.hid o2
           have bb := (Below.refl w1.heap.size wm).alloc HSZ.out (.cells #[.int .i64 (m + 1)] 2) |>.trans ((Below.refl w1.heap.size _).grown g2 (by have := HSZ.out; simp; omega) (own_base (HO.out.alloc (.cells #[.int .i64 (m + 1)] 2))))
           have B2 := Lib.hid (HB.out.trans (bb.mono B1.out.size))
           have HSZ2 := Lib.hid (Nat.le_trans HSZ.out bb.size)
           have k1 : w2.cell? ⟨g, o + j, none⟩ = some (.int .u8 v) := (bb.cell (p := ⟨g, o + j, none⟩) (Nat.lt_of_lt_of_le HG.out B1.out.size)).trans k1
           clear o2 g2 bb))
      go_roundw
      case rel => exact ⟨j + 1, s + (m + 1), by go_num, rfl, HLT.out, Lib.hid (by rw [HMS.out, HS.out]), O2, B2, HSZ2⟩
      case measure => have := HLT.out; simp [intOf]; omega
    · have hd : decide ((j : Int) < (l.length : Int)) = false := by simp; omega
      obtain rfl : j = l.length := by omega
      obtain ⟨A2, c2, rfl, r0⟩ := co_row (len_of l l.length (Nat.le_refl _)) HO.out
      rw [List.take_length] at r0 HS
      have hlen : (l.map wFair).length = l.length := List.length_map ..
      have R0 := Lib.hid (show RowIn (enc1 .i64) 1 wm wm.heap.size A2 c2 (l.map wFair) from r0)
      rw [List.take_length, hlen]
      have hne : l.map wFair ≠ [] := fun q => by have h1 := congrArg List.length q; rw [hlen] at h1; have h2 := HN.out.1; simp only [List.length_nil] at h1; omega
      have h1000 : (l.map wFair).length ≤ 1000 := by rw [hlen]; have := HN.out; omega
      have hs := HSR.out
      have hs1 : 1 ≤ s := hs.2.2 HN.out.1
      have P1 := Lib.hid (show ∀ (d : Int), 0 ≤ d → d < s → ∀ (W : World), RowIn (enc1 .i64) 1 W W.heap.size A2 c2 (l.map wFair) → Calls Try.prog 12 #[.slice A2 l.length c2, .int .u64 d] W fun e w' => e = .returned (.tuple #[.int .i64 ((pickN d (l.map wFair) : Nat) : Int), .bool true]) ∧ Below W.heap.size W w' from fun d h1 h2 W hr => by
        have h := HP.out A2 c2 (l.map wFair) ⟨d, by simp [Lit.wf, IntKind.min, IntKind.max, IntKind.signed, IntKind.bits]; omega⟩ W hr (by omega)
        rw [pick_in (fair_pos l) (fair_top l) h1000 hne h1 (HS.out ▸ h2), hlen] at h
        exact h)
      have HSR2 := Lib.hid (And.intro hs1 hs)
      clear HSR HO r0 hs hs1 hj hlt
      go_wp2_with fail
      have K0 := Lib.hid (show Blk (wm.alloc (.cells (cntV 0 (l.map wFair)) 2)) wm.heap.size 2 (cntV 0 (l.map wFair)) from Blk.new wm 2 _)
      have BM0 := Lib.hid (show Below wm.heap.size wm (wm.alloc (.cells (cntV 0 (l.map wFair)) 2)) from (Below.refl _ _).alloc (Nat.le_refl _) _)
      clear hmk
      go_loopw [9] (fun si wx => ∃ i : Nat, si = .int .i64 i ∧ (i : Int) ≤ s ∧ Hid (Blk wx wm.heap.size 2 (cntV i (l.map wFair))) ∧ Hid (Below wm.heap.size wm wx)) (fun si _ => s.toNat - (intOf si).toNat)
      case atStart => exact ⟨0, rfl, by have := HSR2.out; omega, K0, BM0⟩
      case round =>
        clear K0 BM0
        obtain ⟨i, rfl, hi, KB, BM⟩ := hrel
        by_cases hlt : (i : Int) < s
        · have hd : decide ((i : Int) < s) = true := decide_eq_true hlt
          have hsr := HSR2.out
          obtain ⟨k, hk⟩ : ∃ k, pickN (i : Int) (l.map wFair) = k := ⟨_, rfl⟩
          have hkl : k < l.length := by rw [← hk, ← hlen]; exact pickN_lt (by omega) (by rw [← HS.out]; exact hlt)
          have QP := Lib.hid (hk ▸ P1.out i (by omega) hlt)
          have hiw : IntKind.u64.wrap (i : Int) = (i : Int) := by rw [IntKind.wrap_u64]; omega
          have hk0 : decide ((k : Int) < 0) = false := by simp
          have hk1 : decide ((l.length : Int) ≤ (k : Int)) = false := by simp; omega
          have hk2 : (0 : Int) ≤ (k : Int) := by omega
          have hk3 : (k : Int) < (l.length : Int) := by omega
          obtain ⟨m, hm⟩ : ∃ m, (cntL (i : Int) (l.map wFair)).getD k 0 = m := ⟨_, rfl⟩
          have hmr := cnt_top (fair_pos l) (i := (i : Int)) (k := k) (by omega) (by rw [hlen]; exact hkl)
          rw [hm] at hmr
          have hmw : IntKind.i64.wrap (m + 1) = m + 1 := by rw [IntKind.wrap_i64]; omega
          have KN := Lib.hid (show (cntV i (l.map wFair)).setIfInBounds k (.int .i64 (m + 1)) = cntV ((i + 1 : Nat) : Int) (l.map wFair) by
            have := cntV_next (fair_pos l) (i := (i : Int)) (by omega) (by rw [← HS.out]; exact hlt)
            rw [hk, hm] at this
            rw [this]
            congr 1)
          have KA := Lib.hid (show (cntV i (l.map wFair))[k]? = some (.int .i64 m) by rw [cntV_at (by rw [hlen]; exact hkl), hm])
          have HI := Lib.hid (show ((i + 1 : Nat) : Int) ≤ s by omega)
          have hib : (i : Int) ≤ 270 := by omega
          have HLTI := Lib.hid hlt
          have HKL := Lib.hid hkl
          clear hlt hm hmr hk hkl hsr hi
          go_wp2_with fail
          with_reducible refine (QP.out _ ((R0.out.below BM.out).more BM.out.size)).mono ?_
          rintro e w3 ⟨rfl, bq⟩
          have KB3 := Lib.hid (below_blk bq KB.out KB.out.lt)
          have BM3 := Lib.hid (BM.out.trans (bq.mono BM.out.size))
          have k2 : w3.cell? ⟨wm.heap.size, k, none⟩ = some (.int .i64 m) := (KB3.out.cell k).trans KA.out
          clear bq KB BM
          go_wp2_with ((with_reducible refine at_store 90 89 ?_); refine wpList_store_cell rfl 2 (.tmp 90) (.tmp 89) rfl rfl wm.heap.size k (.int .i64 (m + 1)) rfl rfl rfl 2 _ KB3.out (by rw [cntV_size, List.length_map]; exact HKL.out) (by kernel_rfl) ?_; intro w5 o5 b5; rw [KN.out] at b5; have KB5 := Lib.hid b5; have BM5 := Lib.hid (BM3.out.trans (o5.below (by simp))); clear o5 b5)
          go_roundw
          case rel => exact ⟨i + 1, by go_num, HI.out, KB5, BM5⟩
          case measure => have := HLTI.out; simp [intOf]; omega
        · have hd : decide ((i : Int) < s) = false := decide_eq_false hlt
          have hie : (i : Int) = s := by omega
          have KF := Lib.hid (show Blk wr wm.heap.size 2 (cellsOf (enc1 .i64) (l.map wFair)).toArray by have := KB.out; rw [hie, HS.out, cntV_full (fair_pos l)] at this; exact this)
          clear KB hlt hi
          rw [hie]
          rw [hie] at hd
          clear hie
          go_wp2_with fail
          obtain ⟨wq, rfl⟩ : ∃ q, q = wr := ⟨_, rfl⟩
          go_loopw [12] (fun si wy => ∃ j : Nat, si = .int .i64 j ∧ j ≤ l.length ∧ Hid (Below wq.heap.size wq wy)) (fun si _ => l.length - (intOf si).toNat)
          case atStart => exact ⟨0, rfl, Nat.zero_le _, Lib.hid (Below.refl _ _)⟩
          case round =>
            obtain ⟨j, rfl, hj, BY⟩ := hrel
            by_cases hlt : j < l.length
            · have hd : decide ((j : Int) < (l.length : Int)) = true := by simp; omega
              have hi0 : (0 : Int) ≤ (j : Int) := by omega
              have hi1 : (j : Int) < (l.length : Int) := by omega
              have hj' : j < (l.map wFair).length := by rw [hlen]; exact hlt
              obtain ⟨g8, o8, hA8, hg8, hc8⟩ := R0.out.at (enc1_len _) hj'
              obtain ⟨x, hx⟩ : ∃ x, (l.map wFair)[j]'hj' = x := ⟨_, rfl⟩
              have hc7 := (RowC.of_blk KF.out).at (enc1_len _) hj'
              rw [hx] at hc7 hc8
              subst hA8
              have B8 := BM.out.trans (BY.out.mono BM.out.size)
              have D7 := Lib.hid (show ∀ W, From wr W → W.cell? ⟨wm.heap.size, j, none⟩ = some (.int .i64 x.1) from fun W hC => by
                have h := ((hc7.below BY.out KF.out.lt).below hC.below (Nat.lt_of_lt_of_le KF.out.lt BY.out.size)).head
                rw [Nat.zero_add, Nat.mul_one] at h
                exact h)
              have D8 := Lib.hid (show ∀ W, From wr W → W.cell? ⟨g8, o8 + j, none⟩ = some (.int .i64 x.1) from fun W hC => by
                have h := ((hc8.below B8 hg8).below hC.below (Nat.lt_of_lt_of_le hg8 B8.size)).head
                rw [Nat.mul_one] at h
                exact h)
              have HLT := Lib.hid hlt
              clear hc7 hc8 hx hg8 B8 hj' hlt hj
              go_wp2_with fail
              refine wp_region_from (by kernel_rfl) (by kernel_rfl) ?_
              repeat (first
                | go_big_quiet_skip
                | ((with_reducible refine at_qload 99 ?_); refine wpQuiet_load_one (by rfl) 2 (.tmp 99) rfl ⟨wm.heap.size, j, none⟩ rfl (.int .i64 x.1) Try.isAgg2 (D7.out) ?_; simp only [Act.put, List.setIfInBounds_toArray, List.set_cons_succ, List.set_cons_zero])
                | ((with_reducible refine at_qload 103 ?_); refine wpQuiet_load_one (by rfl) 2 (.tmp 103) rfl ⟨g8, o8 + j, none⟩ rfl (.int .i64 x.1) Try.isAgg2 (D8.out) ?_; simp only [Act.put, List.setIfInBounds_toArray, List.set_cons_succ, List.set_cons_zero])
                | (go_big_quiet_want; go_big_quiet_op; refine ⟨_, fun _ _ => by with_reducible rfl, ?_⟩; go_big_quiet_on)
                | go_big_quiet_step (fail))
              refine wpQuiet_nil ?_
              intro w9 hC
              have BY9 := Lib.hid (BY.out.trans (hC.below.mono BY.out.size))
              clear hC D7 D8 BY
              go_wp2_with fail
              go_roundw
              case rel => exact ⟨j + 1, by go_num, HLT.out, BY9⟩
              case measure => have := HLT.out; simp [intOf]; omega
            · have hd : decide ((j : Int) < (l.length : Int)) = false := by simp; omega
              obtain rfl : j = l.length := by omega
              have hsr := HSR2.out
              have BX := Lib.hid (BM.out.trans (BY.out.mono BM.out.size))
              have hs0 : ¬ s = 0 := by omega
              have hsw : IntKind.u64.wrap s = s := by rw [IntKind.wrap_u64]; omega
              have hsw2 : s % 18446744073709551616 = s := by omega
              have ha := wf_u64r a
              obtain ⟨x, hx⟩ : ∃ x, a.1.tmod s = x := ⟨_, rfl⟩
              have hx1 : 0 ≤ x := hx ▸ Int.tmod_nonneg s ha.1
              have hx2 : x < s := hx ▸ Int.tmod_lt_of_pos a.1 (by omega)
              have hxw : IntKind.u64.wrap x = x := by rw [IntKind.wrap_u64]; omega
              obtain ⟨k, hk⟩ : ∃ k, pickN x (l.map wFair) = k := ⟨_, rfl⟩
              have Q1 := Lib.hid (show ∀ W, RowIn (enc1 .i64) 1 W W.heap.size A2 c2 (l.map wFair) → Calls Try.prog 12 #[.slice A2 l.length c2, .int .u64 a.1] W fun e w' => e = .returned (.tuple #[.int .i64 (k : Int), .bool true]) ∧ Below W.heap.size W w' from fun W hr => by
                have h := HP.out A2 c2 (l.map wFair) a W hr (by omega)
                rw [pick_ok (fair_pos l) (fair_top l) h1000 hne, ← HS.out, hx, hk, hlen] at h
                exact h)
              have Q2 := Lib.hid (show ∀ W, RowIn (enc1 .i64) 1 W W.heap.size A2 c2 (l.map wFair) → Calls Try.prog 12 #[.slice A2 l.length c2, .int .u64 x] W fun e w' => e = .returned (.tuple #[.int .i64 (k : Int), .bool true]) ∧ Below W.heap.size W w' from hk ▸ P1.out x hx1 hx2)
              have Q3 := Lib.hid (show ∀ W, RowIn (enc1 .i64) 1 W W.heap.size A2 c2 (l.map wFair) → Calls Try.prog 10 #[.slice A2 l.length c2] W fun e w' => e = .returned (.tuple #[.int .i64 s, .bool true]) ∧ Below W.heap.size W w' from fun W hr => by
                have h := HSM.out A2 c2 (l.map wFair) W hr (by omega)
                rw [sum_ok (fair_pos l) (fair_top l) h1000, ← HS.out, hlen] at h
                exact h)
              have R1 := Lib.hid ((R0.out.below BX.out).more BX.out.size)
              have C0 := Lib.hid (HB.out.trans (BX.out.mono HB.out.size))
              clear P1 hsr ha hk hx1 hx2 HS hne h1000 hlen hlt hj BM BY KF
              go_wp2_with fail
              with_reducible refine (Q1.out _ R1.out).mono ?_
              rintro e w3 ⟨rfl, bq⟩
              have R2 := Lib.hid ((R1.out.below bq).more bq.size)
              have C1 := Lib.hid (C0.out.trans (bq.mono C0.out.size))
              clear bq
              go_wp2_with fail
              with_reducible refine (Q2.out _ R2.out).mono ?_
              rintro e w4 ⟨rfl, bq⟩
              have R3 := Lib.hid ((R2.out.below bq).more bq.size)
              have C2 := Lib.hid (C1.out.trans (bq.mono C1.out.size))
              clear bq
              go_wp2_with fail
              with_reducible refine (Q3.out _ R3.out).mono ?_
              rintro e w5 ⟨rfl, bq⟩
              have C3 := Lib.hid (C2.out.trans (bq.mono C2.out.size))
              clear bq
              go_wp2_with fail
              go_ret
              exact ⟨by first | rfl | simp, C3.out⟩
set_option maxRecDepth 20000 in
set_option maxHeartbeats 4000000 in
theorem cosFair_walk (HPI : PickOk) (HSU : SumOk) (HCO : CostTOk) (A : Option Addr) (c : Nat) (l : List (IntV .u8)) (a : IntV .u64) (w : World) (hl : RowIn (enc1 .u8) 1 w w.heap.size A c l) :
    Calls Try.prog 4 #[.slice A l.length c, .int .u64 a.1] w fun e w' => e = .returned (.bool true) ∧ Below w.heap.size w w' := by
  by_cases h : 30 < l.length ∨ l.length = 0
  · exact cosFair_h HPI HSU HCO A c l a w hl h
  · exact cosFair_m HPI HSU HCO A c l a w hl (by omega) (by omega)
end Go.Proofs.Ytpoejbfcioijhaa
