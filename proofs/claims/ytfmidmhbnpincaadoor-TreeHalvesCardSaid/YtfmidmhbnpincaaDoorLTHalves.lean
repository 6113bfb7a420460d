/- TreeHalves' walk. Written by genL7g.py. -/
import Derived.Test.YtfmidmhbnpincaaDoorLTParts
namespace Go.Proofs.YtfmidmhbnpincaaDoor
open Go.RowKit
theorem hzcK : ((Tryd.prog.info? 24).bind (·.zero)).map (·.cells.size) = some 32 := by kernel_rfl
theorem hzbK : (Tryd.prog.info? 24).map (·.bytes) = some 32 := by kernel_rfl
theorem hzsK : ((Tryd.prog.info? 24).bind (·.zero)).isSome = true := by kernel_rfl
theorem hown_grown {w w' : World} {base : Nat} {e : TypeId} {size n : Nat} {v : Value} {xs : List Value} (h : w.ownsRow base e size v n xs) (hg : w.grownBy w' v.ownBlock) (hB : base ≤ w.heap.size) : Below base w w' := (Below.refl _ _).grown hg hB (own_base h)
theorem hown_congr {w : World} {base : Nat} {e : TypeId} {size : Nat} {v : Value} {l m : List K32} (h : w.ownsRow base e size v l.length (cellsOf encK l)) (e' : l = m) : w.ownsRow base e size v m.length (cellsOf encK m) := e' ▸ h
theorem hown_nil {w : World} {g : Nat} {base : Nat} {e : TypeId} {k : Nat} (hb : Blk w g e #[]) (hg : base ≤ g) : w.ownsRow base e k (.slice (some ⟨g, 0, none⟩) 0 0) 0 [] :=
  ⟨by simp, .inr ⟨g, 0, #[], rfl, hg, hb, Nat.le_refl _, Nat.zero_le _, by simp, by simp⟩⟩
theorem hrow_to {w : World} {g o o' : Nat} {xs : List Value} (h : RowC w g o xs) (e : o = o') : RowC w g o' xs := e ▸ h
def cyc (l : List K32) (n : Nat) : List K32 := (List.range n).map fun i => l.getD (i % l.length) zeroKey
theorem cyc_len (l : List K32) (n : Nat) : (cyc l n).length = n := by simp [cyc]
theorem cyc_get (l : List K32) (n j : Nat) (h0 : 0 < l.length) (_hj : j < n) (h2 : j < (cyc l n).length) : (cyc l n)[j] = l[j % l.length]'(Nat.mod_lt _ h0) := by
  simp [cyc, List.getD, List.getElem?_eq_getElem (Nat.mod_lt j h0)]
theorem take_snoc' (l : List K32) (j : Nat) (h : j < l.length) : l.take j ++ [l[j]] = l.take (j + 1) := (List.take_succ_eq_append_getElem h).symm
set_option maxRecDepth 100000 in
set_option maxHeartbeats 4000000 in
theorem thalves_walk (HP : AppTOk) (HO : OfTOk) (A : Option Addr) (c : Nat) (l : List K32) (at' : Int) (w : World) (hl : RowIn encK 32 w w.heap.size A c l) (hat : (Lit.int .u8 at').wf = true) (hR : Roots w) :
    Calls Tryd.prog 9 #[.slice A l.length c, .int .u8 at'] w fun e w' => e = .returned (.bool true) ∧ Below w.heap.size w w' := by
  have SH := Lib.hid (fun W h => tshown_any HP W h)
  unfold OfTOk at HO
  have hcu : 0 ≤ at' ∧ at' ≤ 255 := by simpa [Lit.wf, IntKind.min, IntKind.max, IntKind.signed, IntKind.bits] using hat
  obtain ⟨m, rfl⟩ : ∃ m : Nat, at' = m := ⟨at'.toNat, by omega⟩
  have HL := Lib.hid hl
  have hle := hl.le
  have RR := Lib.hid (Roots.on hR)
  have R0 := Lib.hid hR
  obtain ⟨r, hr⟩ : ∃ r, m % 4 = r := ⟨_, rfl⟩
  have hr4 : r < 4 := by omega
  have hm1 : Int.tmod (m : Int) 4 = (r : Int) := by rw [Int.tmod_eq_emod_of_nonneg (by omega)]; omega
  have hm2 : (m : Int) % 4 = (r : Int) := by omega
  have hm3 : IntKind.i64.wrap (m : Int) = (m : Int) := by rw [IntKind.wrap_i64]; omega
  obtain ⟨n, hn⟩ : ∃ n, 2 ^ (r + 1) = n := ⟨_, rfl⟩
  have hn16 : n ≤ 16 := by rcases (show r = 0 ∨ r = 1 ∨ r = 2 ∨ r = 3 by omega) with rfl | rfl | rfl | rfl <;> simp at hn <;> omega
  have hsh : wrap64 (2 ^ (1 + (r : Int)).toNat) = (n : Int) := by rcases (show r = 0 ∨ r = 1 ∨ r = 2 ∨ r = 3 by omega) with rfl | rfl | rfl | rfl <;> simp at hn <;> subst hn <;> first | rfl | (simp [wrap64]; done)
  have hsh2 : wrap64 (2 ^ (1 + r)) = (n : Int) := by rcases (show r = 0 ∨ r = 1 ∨ r = 2 ∨ r = 3 by omega) with rfl | rfl | rfl | rfl <;> simp at hn <;> subst hn <;> first | rfl | (simp [wrap64]; done)
  have HN := Lib.hid hn
  by_cases h0 : l.length = 0
  · have hd := (show ((l.length : Int) == 0) = true from beq_iff_eq.mpr (by omega))
    clear hl hR hat hcu hle
    go_enter Tryd.func9, Tryd.ntmps9
    go_wp2_with fail
    refine (SH.out _ R0.out).mono ?_
    rintro e w1 ⟨rfl, b1⟩
    go_wp2_with fail
    go_ret
    exact ⟨rfl, b1⟩
  by_cases h60 : 60 < l.length
  · have hd0 : ((l.length : Int) == 0) = false := beq_eq_false_iff_ne.mpr (by omega)
    have hd : decide ((60 : Int) < (l.length : Int)) = true := by simp; omega
    clear hl hR hat hcu hle
    go_enter Tryd.func9, Tryd.ntmps9
    go_wp2_with fail
    refine (SH.out _ R0.out).mono ?_
    rintro e w1 ⟨rfl, b1⟩
    go_wp2_with fail
    go_ret
    exact ⟨rfl, b1⟩
  · have hd0 : ((l.length : Int) == 0) = false := beq_eq_false_iff_ne.mpr (by omega)
    have hd : decide ((60 : Int) < (l.length : Int)) = false := by simp; omega
    have H60 := Lib.hid (show l.length ≤ 60 ∧ 0 < l.length from by omega)
    have CG := Lib.hid (fun j hj h2 => cyc_get l n j H60.out.2 hj h2)
    have CL := Lib.hid (cyc_len l n)
    obtain ⟨t, ht⟩ : ∃ t, cyc l n = t := ⟨_, rfl⟩
    rw [ht] at CL
    have CG2 := Lib.hid (fun j (hj : j < n) (h2 : j < t.length) => show t[j] = l[j % l.length]'(Nat.mod_lt _ H60.out.2) from by subst ht; exact CG.out j hj h2)
    obtain ⟨Z, hZ, hz, hzs, hzn⟩ := zero_of zeroTr_ok zT_size
    have HS := Lib.hid hzs
    clear hl hR hat hcu hle hZ hzs ht CG hr hn
    go_enter Tryd.func9, Tryd.ntmps9
    go_wp2_with fail
    refine (SH.out _ R0.out).mono ?_
    rintro e w1 ⟨rfl, b1⟩
    have B1 := Lib.hid b1
    go_wp2_with fail
    have B2 := Lib.hid (b1.alloc b1.size (.cells #[] 24))
    have O2 := Lib.hid (show World.ownsRow (w1.alloc (.cells #[] 24)) w.heap.size 24 32 (.slice (some ⟨w1.heap.size, 0, none⟩) 0 0) ([] : List K32).length (cellsOf encK []) from hown_nil (Blk.new w1 24 #[]) b1.size)
    clear b1 B1
    generalize w1.alloc (.cells #[] 24) = w2 at O2 B2 ⊢
    go_loopw [7, 8] (fun so si wr => ∃ j : Nat, si = .int .i64 j ∧ j ≤ n ∧ Hid (wr.ownsRow w.heap.size 24 32 so (t.take j).length (cellsOf encK (t.take j))) ∧ Hid (Below w.heap.size w wr)) (fun _ i _ => n - (intOf i).toNat)
    case atStart => exact ⟨0, rfl, by omega, O2, B2⟩
    case round =>
      clear O2 B2
      obtain ⟨j, rfl, hj, HJ, HW⟩ := hrel
      by_cases hlt : j < n
      · have hq : j % l.length < l.length := Nat.mod_lt _ H60.out.2
        have hjt : j < t.length := by rw [CL.out]; exact hlt
        have HTS := Lib.hid (take_snoc' t j hjt)
        obtain ⟨g, o, hA, hg, hc⟩ := (HL.out.below HW.out).cells (by intro e; subst e; simp at hq)
        have HX := Lib.hid (hc.at encK_len hq)
        clear hc
        have HXT := Lib.hid (CG2.out j hlt hjt)
        obtain ⟨x, hx⟩ : ∃ x, l[j % l.length]'hq = x := ⟨_, rfl⟩
        rw [hx] at HX HXT
        rw [HXT.out] at HTS
        have HLT := Lib.hid (show (t.take j).length ≤ 16 by rw [List.length_take]; omega)
        obtain ⟨p, hp⟩ : ∃ p, j % l.length = p := ⟨_, rfl⟩
        have hmj : Int.tmod (j : Int) (l.length : Int) = (p : Int) := by rw [Int.tmod_eq_emod_of_nonneg (by omega), ← hp, Int.natCast_emod]
        rw [hp] at hq HX
        subst hA
        clear hx hp
        have d1 : (0 : Int) ≤ (p : Int) := by omega
        have d4 : ¬ ((l.length : Int) = 0) := by omega
        have d5 : IntKind.i64.wrap (j : Int) = (j : Int) := by rw [IntKind.wrap_i64]; omega
        have d2 : (p : Int) < (l.length : Int) := by omega
        have d6 : IntKind.i64.wrap (p : Int) = (p : Int) := by have := H60.out.1; rw [IntKind.wrap_i64]; omega
        go_wp2_with (first
          | ((with_reducible refine at_loadg 43 ?_); refine tyKy.wpList_load (by rfl) (.tmp 43) rfl g _ rfl x (HX.out) ?_)
          | ((with_reducible refine at_buildSlice 45 ?_); refine tyKy.wpList_build rfl hzsK 1 _ rfl [x] rfl (by omega) (by omega) (by kernel_rfl) ?_)
          | ((with_reducible refine at_appendg 46 37 45 ?_); refine tyKy.wpList_append1 rfl hzcK 32 hzbK (by omega) (.tmp 37) (.tmp 45) rfl w.heap.size _ (t.take j) rfl (HJ.out.alloc _) _ 1 x rfl (Blk.new _ _ _) (by have := HLT.out; omega) (by have := HW.out.size; simp; omega) ?_; intro v5 w5 p5 g5; have O5 := Lib.hid (hown_congr p5 HTS.out); have B5 := Lib.hid ((HW.out.alloc HW.out.size _).trans (hown_grown (HJ.out.alloc _) g5 (by have := HW.out.size; simp; omega))); clear p5 g5))
        go_roundw
        case rel => exact ⟨j + 1, by go_num, by omega, O5, B5⟩
        case measure => simp [intOf]; omega
      · obtain rfl : j = n := by omega
        have HTT := hown_congr HJ.out (show t.take j = t from List.take_of_length_le (by rw [CL.out]; exact Nat.le_refl _))
        obtain ⟨A5, c5, rfl, r5⟩ := RowIn.of_own encK_len HTT
        have R5 := Lib.hid r5
        have HH0 := Lib.hid (Holds.nil w |>.call HW.out)
        obtain ⟨h, hh⟩ : ∃ h, 2 ^ r = h := ⟨_, rfl⟩
        have HH2 := Lib.hid hh
        have hnh : j = 2 * h := by have := HN.out; rw [Nat.pow_succ] at this; omega
        have hle2 : h ≤ t.length := by rw [CL.out]; omega
        have hdv : Int.tdiv (j : Int) 2 = (h : Int) := by rw [Int.tdiv_eq_ediv_of_nonneg (by omega)]; omega
        have hdv2 : (j : Int) / 2 = (h : Int) := by omega
        have hdw : IntKind.i64.wrap (h : Int) = (h : Int) := by rw [IntKind.wrap_i64]; omega
        have HC5 := Lib.hid (show h ≤ t.length ∧ t.length ≤ 16 from ⟨hle2, by rw [CL.out]; exact hn16⟩)
        have hcap := r5.le
        have hs1 : ∀ W, (Instr.slice 28 (.slice A5 t.length c5) none (some (.int .i64 (h : Int))) none).run Tryd.prog W = .ok (.slice A5 h c5) W := fun W => tyKy.slice_to W A5 t.length c5 h (by omega)
        have hs2 : ∀ W, (Instr.slice 28 (.slice A5 t.length c5) (some (.int .i64 (h : Int))) none none).run Tryd.prog W = .ok (.slice (cutA 32 c5 h A5) (t.length - h) (c5 - h)) W := fun W => tyKy.slice_from W A5 t.length c5 h (by omega)
        have hA1 : (t.take h).length < 4294967296 := by rw [List.length_take]; have := HC5.out; omega
        have hA2 : (t.drop h).length < 4294967296 := by rw [List.length_drop]; have := HC5.out; omega
        have hA3 : t.length < 4294967296 := by have := HC5.out; omega
        have O1 := Lib.hid (show ∀ W, Below wr.heap.size wr W → Roots W → Calls Tryd.prog 19 #[.slice A5 h c5] W fun e w' => e = .returned (.agg (ofT (t.take h) hA1).cells.toArray) ∧ Below W.heap.size W w' from fun W hb hr => by
          have := HO A5 c5 (t.take h) (by rw [List.length_take]; have := HC5.out; omega) W (((R5.out.below hb).more hb.size).take encK_len h) hr
          have e : (t.take h).length = h := by rw [List.length_take]; have := HC5.out; omega
          simpa only [e] using this)
        have O2 := Lib.hid (show ∀ W, Below wr.heap.size wr W → Roots W → Calls Tryd.prog 19 #[.slice (cutA 32 c5 h A5) (t.length - h) (c5 - h)] W fun e w' => e = .returned (.agg (ofT (t.drop h) hA2).cells.toArray) ∧ Below W.heap.size W w' from fun W hb hr => by
          have := HO (cutA 32 c5 h A5) (c5 - h) (t.drop h) (by rw [List.length_drop]; have := HC5.out; omega) W (((R5.out.below hb).more hb.size).drop encK_len h HC5.out.1) hr
          have e : (t.drop h).length = t.length - h := by rw [List.length_drop]
          simpa only [e] using this)
        have O3 := Lib.hid (show ∀ W, Below wr.heap.size wr W → Roots W → Calls Tryd.prog 19 #[.slice A5 t.length c5] W fun e w' => e = .returned (.agg (ofT t hA3).cells.toArray) ∧ Below W.heap.size W w' from fun W hb hr =>
          HO A5 c5 t (by have := HC5.out; omega) W ((R5.out.below hb).more hb.size) hr)
        obtain ⟨ta, hta⟩ : ∃ x, ofT (t.take h) hA1 = x := ⟨_, rfl⟩
        obtain ⟨tb, htb⟩ : ∃ x, ofT (t.drop h) hA2 = x := ⟨_, rfl⟩
        obtain ⟨tt, htt⟩ : ∃ x, ofT t hA3 = x := ⟨_, rfl⟩
        have TA := Lib.hid hta
        have TB := Lib.hid htb
        have TT := Lib.hid htt
        rw [hta] at O1
        rw [htb] at O2
        rw [htt] at O3
        clear hta htb htt r5 HTT hle2
        have BW := Lib.hid (Below.refl wr.heap.size wr)
        go_wp2_with fail
        refine (O1.out _ BW.out (RR.out _ HW.out)).mono ?_
        rintro e w4 ⟨rfl, b4⟩
        have H4 := Lib.hid (show Holds wr [] w4 from (Holds.nil wr).call b4)
        clear b4
        go_wp2_with ((with_reducible refine at_store 9 51 ?_); refine tyTr.wpList_store rfl (.tmp 9) (.tmp 51) rfl rfl w4.heap.size (ta) rfl rfl 27 Z (Blk.new w4 27 Z) (by rw [HS.out]) ?_; intro w5 o5 b5
                     have H5 := Lib.hid (H4.out.put o5 b5)
                     clear o5 b5)
        go_wp2_with fail
        refine (O2.out _ H5.out.below (RR.out _ (HW.out.trans (H5.out.below.mono HW.out.size)))).mono ?_
        rintro e w6 ⟨rfl, b6⟩
        have H6 := Lib.hid (H5.out.call b6)
        clear b6
        go_wp2_with ((with_reducible refine at_store 10 56 ?_); refine tyTr.wpList_store rfl (.tmp 10) (.tmp 56) rfl rfl w6.heap.size (tb) rfl rfl 27 Z (Blk.new w6 27 Z) (by rw [HS.out]) ?_; intro w7 o7 b7
                     have H7 := Lib.hid (H6.out.put o7 b7)
                     clear o7 b7)
        go_wp2_with fail
        refine (O3.out _ H7.out.below (RR.out _ (HW.out.trans (H7.out.below.mono HW.out.size)))).mono ?_
        rintro e w8 ⟨rfl, b8⟩
        have H8 := Lib.hid (H7.out.call b8)
        clear b8
        go_wp2_with ((with_reducible refine at_store 11 58 ?_); refine tyTr.wpList_store rfl (.tmp 11) (.tmp 58) rfl rfl w8.heap.size (tt) rfl rfl 27 Z (Blk.new w8 27 Z) (by rw [HS.out]) ?_; intro w9 o9 b9
                     have H9 := Lib.hid (H8.out.put o9 b9)
                     clear o9 b9)
        have TL := Lib.hid (show t.length = 2 ^ (r + 1) by rw [CL.out, HN.out])
        have HF := Lib.hid (show t.take h = t.take (2 ^ r) ∧ t.drop h = t.drop (2 ^ r) from by rw [HH2.out]; exact ⟨rfl, rfl⟩)
        obtain ⟨ka, hka⟩ : ∃ k, ptK (t.take h) r = k := ⟨_, rfl⟩
        obtain ⟨kb, hkb⟩ : ∃ k, ptK (t.drop h) r = k := ⟨_, rfl⟩
        have GA := Lib.hid (fun (W : World) (hC : From w9 W) => show RowC W w4.heap.size (1 + r * 32) (encK ka) from by
          have h1 : RowC W w4.heap.size 0 (ofT (t.take h) hA1).cells := by rw [TA.out]; exact RowC.of_blk ((H9.out.call hC.below).at (x := (w4.heap.size, 27, ta.cells.toArray)) (by simp))
          have := ofT_part h1 r (by omega)
          rwa [hka] at this)
        have GB := Lib.hid (fun (W : World) (hC : From w9 W) => show RowC W w6.heap.size (1 + r * 32) (encK kb) from by
          have h1 : RowC W w6.heap.size 0 (ofT (t.drop h) hA2).cells := by rw [TB.out]; exact RowC.of_blk ((H9.out.call hC.below).at (x := (w6.heap.size, 27, tb.cells.toArray)) (by simp))
          have := ofT_part h1 r (by omega)
          rwa [hkb] at this)
        have GT := Lib.hid (fun (W : World) (hC : From w9 W) => show RowC W w8.heap.size 0 (ofT t hA3).cells from by rw [TT.out]; exact RowC.of_blk ((H9.out.call hC.below).at (x := (w8.heap.size, 27, tt.cells.toArray)) (by simp)))
        have G1 := Lib.hid (fun (W : World) (hC : From w9 W) => show RowC W w8.heap.size (1 + (r + 1) * 32) (encK (pairK ka kb)) from by
          have := ofT_part (GT.out W hC) (r + 1) (by omega)
          rwa [show ptK t (r + 1) = pairK ka kb from by
            have h1 := part_half pairK zeroKey t r TL.out
            rw [← hka, ← hkb, HF.out.1, HF.out.2]
            exact h1] at this)
        have G0 := Lib.hid (fun (W : World) (hC : From w9 W) => show RowC W w8.heap.size (1 + r * 32) (encK zeroKey) from by
          have := ofT_part (GT.out W hC) r (by omega)
          rwa [show ptK t r = zeroKey from part_low pairK zeroKey t r TL.out] at this)
        have C2 := Lib.hid (fun (W : World) (hC : From w9 W) => show W.cell? ⟨w8.heap.size, 0, none⟩ = some (.int .u32 (2 * (h : Int))) from by
          have := TrV.c0 (t := ofT t hA3) (GT.out W hC)
          rw [this]
          congr 2
          show ((t.length : Nat) : Int) = _
          rw [CL.out]
          omega)
        obtain ⟨kp, hkp⟩ : ∃ kp, pairK ka kb = kp := ⟨_, rfl⟩
        have PR := Lib.hid (fun W => rPair_r ka kb W)
        rw [hkp] at G1 PR
        have f1 : (0 : Int) ≤ 1 + (r : Int) := by omega
        have f2 : 1 + (r : Int) < 32 := by omega
        have f3 : (0 : Int) ≤ (r : Int) := by omega
        have f4 : (r : Int) < 32 := by omega
        have f5 : IntKind.i64.wrap (1 + (r : Int) - 1) = (r : Int) := by rw [IntKind.wrap_i64]; omega
        have f6 : wrap64 (1 + (r : Int) - 1) = (r : Int) := by unfold wrap64; omega
        have f7 : IntKind.u32.wrap (2 * (h : Int)) = 2 * (h : Int) := by have := HC5.out; rw [IntKind.wrap_u32']; omega
        have f8 : IntKind.i64.wrap (1 + (r : Int)) = 1 + (r : Int) := by rw [IntKind.wrap_i64]; omega
        have f9 : IntKind.i64.wrap (r : Int) = (r : Int) := by rw [IntKind.wrap_i64]; omega
        clear hkp hka hkb hz hzn
        refine wp_region_from (by kernel_rfl) (by kernel_rfl) ?_
        repeat (first
          | go_big_quiet_skip
          | ((with_reducible refine at_qload 61 ?_); refine tyKc.wpQuiet_load (by rfl) (.tmp 61) rfl w8.heap.size _ rfl kp (fun W hC => hrow_to (G1.out W hC) (by omega)) ?_; simp only [Act.put, List.setIfInBounds_toArray, List.set_cons_succ, List.set_cons_zero])
          | ((with_reducible refine at_qload 66 ?_); refine tyKc.wpQuiet_load (by rfl) (.tmp 66) rfl w4.heap.size _ rfl ka (fun W hC => hrow_to (GA.out W hC) (by omega)) ?_; simp only [Act.put, List.setIfInBounds_toArray, List.set_cons_succ, List.set_cons_zero])
          | ((with_reducible refine at_qload 71 ?_); refine tyKc.wpQuiet_load (by rfl) (.tmp 71) rfl w6.heap.size _ rfl kb (fun W hC => hrow_to (GB.out W hC) (by omega)) ?_; simp only [Act.put, List.setIfInBounds_toArray, List.set_cons_succ, List.set_cons_zero])
          | ((with_reducible refine at_qload 86 ?_); refine tyKc.wpQuiet_load (by rfl) (.tmp 86) rfl w8.heap.size _ rfl zeroKey (fun W hC => hrow_to (G0.out W hC) (by omega)) ?_; simp only [Act.put, List.setIfInBounds_toArray, List.set_cons_succ, List.set_cons_zero])
          | ((with_reducible refine at_qload 76 ?_); refine wpQuiet_load_one (by rfl) 22 (.tmp 76) rfl ⟨w8.heap.size, 0, none⟩ rfl (.int .u32 (2 * (h : Int))) Tryd.isAgg22 C2.out ?_; simp only [Act.put, List.setIfInBounds_toArray, List.set_cons_succ, List.set_cons_zero])
          | ((with_reducible refine at_qeql 62 73 ?_); refine wpQuiet_eql_row (by rfl) 24 24 (.tmp 62) (.tmp 73) rfl (encK kp).toArray (encK kp).toArray rfl rfl (by kernel_rfl) true (fun V => (eqKy_run _ _ V).trans (by simp)) ?_; simp only [Act.put, List.setIfInBounds_toArray, List.set_cons_succ, List.set_cons_zero])
          | ((with_reducible refine at_qeql 87 88 ?_); refine wpQuiet_eql_row (by rfl) 24 24 (.tmp 87) (.tmp 88) rfl (encK zeroKey).toArray (encK zeroKey).toArray rfl rfl (by kernel_rfl) true (fun V => (eqKy_run _ _ V).trans (by simp)) ?_; simp only [Act.put, List.setIfInBounds_toArray, List.set_cons_succ, List.set_cons_zero])
          | ((with_reducible refine at_qbuild 88 ?_); refine wpQuiet_built (by rfl) 24 #[] rfl (encK zeroKey).toArray (by kernel_rfl) ?_; simp only [Act.put, List.setIfInBounds_toArray, List.set_cons_succ, List.set_cons_zero])
          | (go_big_quiet_want; go_big_quiet_op; refine ⟨_, fun _ _ => by with_reducible rfl, ?_⟩; go_big_quiet_on)
          | go_big_quiet_step ((intro hC; first
              | (go_at_call 22; with_reducible exact (PR.out _).mono fun _ _ h => ⟨h.1, hC.call h.2⟩)
              | fail)))
        refine wpQuiet_nil ?_
        intro wz hC
        have HZ9 := Lib.hid (H9.out.call hC.below)
        clear hC
        go_wp2_with fail
        go_ret
        exact ⟨rfl, HW.out.trans (HZ9.out.below.mono HW.out.size)⟩
end Go.Proofs.YtfmidmhbnpincaaDoor
