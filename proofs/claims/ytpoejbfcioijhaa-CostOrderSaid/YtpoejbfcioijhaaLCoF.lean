/- CostOrder's walk. Written by genLC14f.py. -/
import Derived.Test.YtpoejbfcioijhaaLCoRi
import Derived.Test.YtpoejbfcioijhaaCosF
namespace Go.Proofs.Ytpoejbfcioijhaa
open Go.RowKit
theorem wf_u8q (z : IntV .u8) : 0 ≤ z.1 ∧ z.1 < 256 := by
  have := z.2
  simp [Lit.wf, IntKind.min, IntKind.max, IntKind.signed, IntKind.bits] at this
  omega
def wOrd (x : IntV .u8) : IntV .i64 := ⟨x.1 + 1, by have := wf_u8q x; rw [wf_i64]; omega⟩
theorem wOrd_rng (x : IntV .u8) : 1 ≤ (wOrd x).1 ∧ (wOrd x).1 ≤ 256 := by have := wf_u8q x; unfold wOrd; simp only; omega
theorem ord_pos (l : List (IntV .u8)) : Pos (l.map wOrd) := fun x hx => by
  obtain ⟨y, _, rfl⟩ := List.mem_map.1 hx
  exact (wOrd_rng y).1
theorem ord_top (l : List (IntV .u8)) : ∀ x ∈ l.map wOrd, x.1 ≤ 1000 := fun x hx => by
  obtain ⟨y, _, rfl⟩ := List.mem_map.1 hx
  have := (wOrd_rng y).2
  omega
/-- one weight more -/
theorem more_cells {f : IntV .u8 → IntV .i64} (l : List (IntV .u8)) (j : Nat) (hj : j < l.length) : cellsOf (enc1 .i64) ((l.take j).map f) ++ [.int .i64 (f (l[j]'hj)).1] = cellsOf (enc1 .i64) ((l.take (j + 1)).map f) := by
  rw [List.take_succ_eq_append_getElem hj, List.map_append]
  unfold cellsOf
  rw [List.flatMap_append]
  rfl
theorem more_sum {f : IntV .u8 → IntV .i64} (l : List (IntV .u8)) (j : Nat) (hj : j < l.length) : sumI ((l.take (j + 1)).map f) = sumI ((l.take j).map f) + (f (l[j]'hj)).1 := by
  rw [List.take_succ_eq_append_getElem hj, List.map_append]
  exact sumI_snoc _ _
theorem len_of {f : IntV .u8 → IntV .i64} (l : List (IntV .u8)) (j : Nat) (hj : j ≤ l.length) : ((l.take j).map f).length = j := by rw [List.length_map, List.length_take]; omega
set_option maxRecDepth 20000 in
set_option maxHeartbeats 4000000 in
theorem cosOrder_h (HPI : PickOk) (HCO : CostTOk) (A : Option Addr) (c : Nat) (l : List (IntV .u8)) (a b : IntV .u16) (w : World) (_ : RowIn (enc1 .u8) 1 w w.heap.size A c l) (hn : 60 < l.length ∨ l.length = 0) :
    Calls Try.prog 7 #[.slice A l.length c, .int .u16 a.1, .int .u16 b.1] w fun e w' => e = .returned (.bool true) ∧ Below w.heap.size w w' := by
  have SH := Lib.hid (fun W => cosshown_any HPI HCO W)
  clear HPI HCO
  obtain ⟨n, hnn⟩ : ∃ n, l.length = n := ⟨_, rfl⟩
  rw [hnn] at hn ⊢
  clear hnn
  rcases hn with hn | hn
  · have hd : decide ((60 : Int) < (n : Int)) = true := by simp; omega
    go_enter Try.func7, Try.ntmps7
    go_wp2_with fail
    refine (SH.out _).mono ?_
    rintro e w1 ⟨rfl, b1⟩
    have B1 := Lib.hid b1
    clear b1
    go_wp2_with fail
    go_ret
    exact ⟨rfl, B1.out⟩
  · subst hn
    go_enter Try.func7, Try.ntmps7
    go_wp2_with fail
    refine (SH.out _).mono ?_
    rintro e w1 ⟨rfl, b1⟩
    have B1 := Lib.hid b1
    clear b1
    go_wp2_with fail
    go_ret
    exact ⟨rfl, B1.out⟩
set_option maxRecDepth 20000 in
set_option maxHeartbeats 4000000 in
theorem cosOrder_m (HPI : PickOk) (HCO : CostTOk) (A : Option Addr) (c : Nat) (l : List (IntV .u8)) (a b : IntV .u16) (w : World) (hl : RowIn (enc1 .u8) 1 w w.heap.size A c l) (h0 : 0 < l.length) (hn : l.length ≤ 60) :
    Calls Try.prog 7 #[.slice A l.length c, .int .u16 a.1, .int .u16 b.1] w fun e w' => e = .returned (.bool true) ∧ Below w.heap.size w w' := by
  have SH := Lib.hid (fun W => cosshown_any HPI HCO W)
  have HP := Lib.hid HPI
  have HL := Lib.hid hl
  have HN := Lib.hid (And.intro h0 hn)
  have hd : decide ((60 : Int) < (l.length : Int)) = false := by simp; omega
  have he : ((l.length : Int) == 0) = false := beq_eq_false_iff_ne.mpr (by omega)
  clear HPI HCO hl
  go_enter Try.func7, Try.ntmps7
  go_wp2_with fail
  refine (SH.out _).mono ?_
  rintro e w1 ⟨rfl, b1⟩
  have B1 := Lib.hid b1
  clear b1
  go_wp2_with fail
  have O0 := Lib.hid (show World.ownsRow (w1.alloc (.cells #[] 2)) w1.heap.size 2 1 (.slice (some ⟨w1.heap.size, 0, none⟩) 0 0) 0 (cellsOf (enc1 .i64) ((l.take 0).map wOrd)) from ⟨by simp [cellsOf], .inr ⟨w1.heap.size, 0, #[], rfl, Nat.le_refl _, Blk.new w1 2 #[], Nat.le_refl _, Nat.zero_le _, by simp, by simp [cellsOf]⟩⟩)
  have B2 := Lib.hid (show Below w.heap.size w (w1.alloc (.cells #[] 2)) from B1.out.trans (((Below.refl _ _).alloc (Nat.le_refl _) _).mono B1.out.size))
  have HS1 := Lib.hid (show w1.heap.size ≤ (w1.alloc (.cells #[] 2)).heap.size from by simp)
  go_loopw [7, 8, 9] (fun so ss si wr => ∃ (j : Nat) (s : Int), si = .int .i64 j ∧ ss = .int .u64 s ∧ j ≤ l.length ∧ Hid (s = sumI ((l.take j).map wOrd)) ∧ Hid (wr.ownsRow w1.heap.size 2 1 so j (cellsOf (enc1 .i64) ((l.take j).map wOrd))) ∧ Hid (Below w.heap.size w wr) ∧ Hid (w1.heap.size ≤ wr.heap.size)) (fun _ _ si _ => l.length - (intOf si).toNat)
  case atStart => exact ⟨0, 0, rfl, rfl, Nat.zero_le _, Lib.hid (by simp [sumI]), O0, B2, HS1⟩
  case round =>
    clear O0 B2 HS1
    obtain ⟨j, s, rfl, rfl, hj, HS, HO, HB, HSZ⟩ := hrel
    have HSR := Lib.hid (show 0 ≤ s ∧ s ≤ 15360 ∧ (0 < j → 1 ≤ s) by
      have h1 := (ord_pos (l.take j)).sum
      have h2 := sumI_le (c := 256) (l := (l.take j).map wOrd) (fun x hx => by obtain ⟨y, _, rfl⟩ := List.mem_map.1 hx; exact (wOrd_rng y).2)
      have h3 := HN.out
      rw [← HS.out, len_of l j hj] at h1 h2
      omega)
    by_cases hlt : j < l.length
    · have hd : decide ((j : Int) < (l.length : Int)) = true := by simp; omega
      have HLT := Lib.hid hlt
      have hi0 : (0 : Int) ≤ (j : Int) := by omega
      have hi1 : (j : Int) < (l.length : Int) := by omega
      obtain ⟨g, o, hA, hg, hc⟩ := (HL.out.below HB.out).at (enc1_len _) HLT.out
      obtain ⟨x, hx⟩ : ∃ x, l[j]'HLT.out = x := ⟨_, rfl⟩
      have HXX := Lib.hid hx
      rw [hx] at hc
      have HGC := Lib.hid hc
      have HG := Lib.hid hg
      have k1 : wr.cell? ⟨g, o + j, none⟩ = some (.int .u8 x.1) := by have := hc.head; simpa using this
      have hxr := wf_u8q x
      have hsr := HSR.out
      obtain ⟨v, hv⟩ : ∃ v, x.1 = v := ⟨_, rfl⟩
      have HV := Lib.hid (show (wOrd x).1 = v + 1 by rw [← hv]; rfl)
      rw [hv] at k1 hxr
      have a1 : IntKind.i64.wrap v = v := by rw [IntKind.wrap_i64]; omega
      have a2 : IntKind.i64.wrap (v + 1) = v + 1 := by rw [IntKind.wrap_i64]; omega
      have a3 : IntKind.u64.wrap v = v := by rw [IntKind.wrap_u64]; omega
      have a4 : IntKind.u64.wrap (v + 1) = v + 1 := by rw [IntKind.wrap_u64]; omega
      have a5 : IntKind.u64.wrap (s + (v + 1)) = s + (v + 1) := by rw [IntKind.wrap_u64]; omega
      have HVR := Lib.hid (And.intro hxr hsr)
      have HMC := Lib.hid (more_cells (f := wOrd) l j HLT.out)
      have HMS := Lib.hid (more_sum (f := wOrd) l j HLT.out)
      rw [hx] at HMC HMS
      rw [HV.out] at HMC HMS
      subst hA
      clear hc hx hg hv hxr hsr
      go_wp2_with (first
        | ((with_reducible refine at_appendg 48 40 47 ?_); refine wpList_append1g rfl (.tmp 40) (.tmp 47) 30 rfl w1.heap.size 2 _ 8 Try.underlying30 coInfo rfl (by omega) _ j _ rfl (HO.out.alloc _) _ 1 (.int .i64 (v + 1)) rfl (Blk.new _ _ _) rfl (by have := HLT.out; have := HN.out; omega) (by have := HSZ.out; simp; omega) ?_; intro v2 w2 o2 g2 _
           rw [HMC.out] at o2
           have O2 := Lib.hid o2
           have bb := (Below.refl w1.heap.size wr).alloc HSZ.out (.cells #[.int .i64 (v + 1)] 2) |>.trans ((Below.refl w1.heap.size _).grown g2 (by have := HSZ.out; simp; omega) (own_base (HO.out.alloc (.cells #[.int .i64 (v + 1)] 2))))
           have B2 := Lib.hid (HB.out.trans (bb.mono B1.out.size))
           have HSZ2 := Lib.hid (Nat.le_trans HSZ.out bb.size)
           have k1 : w2.cell? ⟨g, o + j, none⟩ = some (.int .u8 v) := (bb.cell (p := ⟨g, o + j, none⟩) (Nat.lt_of_lt_of_le HG.out B1.out.size)).trans k1
           clear o2 g2 bb))
      go_roundw
      case rel => exact ⟨j + 1, s + (v + 1), by go_num, rfl, HLT.out, Lib.hid (by rw [HMS.out, HS.out]), O2, B2, HSZ2⟩
      case measure => have := HLT.out; simp [intOf]; omega
    · have hd : decide ((j : Int) < (l.length : Int)) = false := by simp; omega
      obtain rfl : j = l.length := by omega
      obtain ⟨A2, c2, rfl, r0⟩ := co_row (len_of l l.length (Nat.le_refl _)) HO.out
      rw [List.take_length] at r0 HS
      have hlen : (l.map wOrd).length = l.length := List.length_map ..
      have R0 := Lib.hid (show RowIn (enc1 .i64) 1 wr wr.heap.size A2 c2 (l.map wOrd) from r0)
      rw [List.take_length, hlen]
      have hne : l.map wOrd ≠ [] := fun q => by have h1 := congrArg List.length q; rw [hlen] at h1; have h2 := HN.out.1; simp only [List.length_nil] at h1; omega
      have h1000 : (l.map wOrd).length ≤ 1000 := by rw [hlen]; have := HN.out; omega
      have hs := HSR.out
      have hs1 : 1 ≤ s := hs.2.2 HN.out.1
      have hs0 : ¬ s = 0 := by omega
      obtain ⟨m1, hm1⟩ : ∃ m, min a.1 b.1 = m := ⟨_, rfl⟩
      obtain ⟨m2, hm2⟩ : ∃ m, max a.1 b.1 = m := ⟨_, rfl⟩
      have hmr : 0 ≤ m1 ∧ m1 < 65536 ∧ 0 ≤ m2 ∧ m2 < 65536 := by have := wf_u16q a; have := wf_u16q b; omega
      have mw1 : IntKind.u64.wrap m1 = m1 := by rw [IntKind.wrap_u64]; omega
      have mw2 : IntKind.u64.wrap m2 = m2 := by rw [IntKind.wrap_u64]; omega
      obtain ⟨x, hx⟩ : ∃ x, m1.tmod s = x := ⟨_, rfl⟩
      obtain ⟨y0, hy0⟩ : ∃ x, m2.tmod s = x := ⟨_, rfl⟩
      obtain ⟨y, hy⟩ : ∃ y, max x y0 = y := ⟨_, rfl⟩
      have hx1 : 0 ≤ x := hx ▸ Int.tmod_nonneg s hmr.1
      have hx2 : x < s := hx ▸ Int.tmod_lt_of_pos m1 (by omega)
      have hy1 : 0 ≤ y0 := hy0 ▸ Int.tmod_nonneg s hmr.2.2.1
      have hy2 : y0 < s := hy0 ▸ Int.tmod_lt_of_pos m2 (by omega)
      have hw1 : IntKind.u64.wrap x = x := by rw [IntKind.wrap_u64]; omega
      have hw2 : IntKind.u64.wrap y0 = y0 := by rw [IntKind.wrap_u64]; omega
      have hw3 : IntKind.u64.wrap (s - 1) = s - 1 := by rw [IntKind.wrap_u64]; omega
      have hlw : wrap64 ((l.length : Int) - 1) = (l.length : Int) - 1 := by have := HN.out; unfold wrap64; omega
      have P1 := Lib.hid (fun (d : Int) (h1 : 0 ≤ d) (h2 : d < s) (W : World) (hr : RowIn (enc1 .i64) 1 W W.heap.size A2 c2 (l.map wOrd)) => by
        have h := HP.out A2 c2 (l.map wOrd) ⟨d, by simp [Lit.wf, IntKind.min, IntKind.max, IntKind.signed, IntKind.bits]; omega⟩ W hr (by omega)
        rw [pick_in (ord_pos l) (ord_top l) h1000 hne h1 (HS.out ▸ h2), hlen] at h
        exact h)
      obtain ⟨i, hi⟩ : ∃ i, pickN x (l.map wOrd) = i := ⟨_, rfl⟩
      obtain ⟨k, hk⟩ : ∃ k, pickN y (l.map wOrd) = k := ⟨_, rfl⟩
      have hik : i ≤ k := hi ▸ hk ▸ pickN_mono (ord_pos l) (by omega)
      have hdik : decide ((i : Int) ≤ (k : Int)) = true := by simp; omega
      have Q1 := Lib.hid (show ∀ W, RowIn (enc1 .i64) 1 W W.heap.size A2 c2 (l.map wOrd) → Calls Try.prog 12 #[.slice A2 l.length c2, .int .u64 (x)] W fun e w' => e = .returned (.tuple #[.int .i64 (i : Int), .bool true]) ∧ Below W.heap.size W w' from fun W hr => hi ▸ P1.out x hx1 hx2 W hr)
      have Q2 := Lib.hid (show ∀ W, RowIn (enc1 .i64) 1 W W.heap.size A2 c2 (l.map wOrd) → Calls Try.prog 12 #[.slice A2 l.length c2, .int .u64 (y)] W fun e w' => e = .returned (.tuple #[.int .i64 (k : Int), .bool true]) ∧ Below W.heap.size W w' from fun W hr => hk ▸ P1.out y (by omega) (by omega) W hr)
      have Q3 := Lib.hid (show ∀ W, RowIn (enc1 .i64) 1 W W.heap.size A2 c2 (l.map wOrd) → Calls Try.prog 12 #[.slice A2 l.length c2, .int .u64 (0)] W fun e w' => e = .returned (.tuple #[.int .i64 (0), .bool true]) ∧ Below W.heap.size W w' from fun W hr => by have := P1.out 0 (by omega) (by omega) W hr; rw [pickN_zero (ord_pos l) hne] at this; exact this)
      have hlast : pickN (s - 1) (l.map wOrd) = l.length - 1 := by rw [HS.out, pickN_last (ord_pos l) hne, hlen]
      have Q4 := Lib.hid (show ∀ W, RowIn (enc1 .i64) 1 W W.heap.size A2 c2 (l.map wOrd) → Calls Try.prog 12 #[.slice A2 l.length c2, .int .u64 (s - 1)] W fun e w' => e = .returned (.tuple #[.int .i64 ((l.length - 1 : Nat) : Int), .bool true]) ∧ Below W.heap.size W w' from fun W hr => hlast ▸ P1.out (s - 1) (by omega) (by omega) W hr)
      have hcast : ((l.length - 1 : Nat) : Int) = (l.length : Int) - 1 := by have := HN.out; omega
      have HXY := Lib.hid (And.intro hx1 hx2)
      have HCS := Lib.hid hcast
      clear HSR HO HS r0 hs P1 hi hk hx1 hx2 hy1 hy2 hmr hlast hne h1000 hlen hj hlt hcast
      go_wp2_with fail
      with_reducible refine (Q1.out _ R0.out).mono ?_
      rintro e w3 ⟨rfl, bq⟩
      have R1 := Lib.hid ((R0.out.below bq).more bq.size)
      have C1 := Lib.hid (HB.out.trans (bq.mono HB.out.size))
      clear bq
      go_wp2_with fail
      with_reducible refine (Q2.out _ R1.out).mono ?_
      rintro e w4 ⟨rfl, bq⟩
      have R2 := Lib.hid ((R1.out.below bq).more bq.size)
      have C2 := Lib.hid (C1.out.trans (bq.mono C1.out.size))
      clear bq
      go_wp2_with fail
      with_reducible refine (Q3.out _ R2.out).mono ?_
      rintro e w5 ⟨rfl, bq⟩
      have R3 := Lib.hid ((R2.out.below bq).more bq.size)
      have C3 := Lib.hid (C2.out.trans (bq.mono C2.out.size))
      clear bq
      go_wp2_with fail
      with_reducible refine (Q4.out _ R3.out).mono ?_
      rintro e w6 ⟨rfl, bq⟩
      have C4 := Lib.hid (C3.out.trans (bq.mono C3.out.size))
      clear bq
      rw [HCS.out]
      go_wp2_with fail
      go_ret
      exact ⟨by first | rfl | simp, C4.out⟩
set_option maxRecDepth 20000 in
set_option maxHeartbeats 4000000 in
theorem cosOrder_walk (HPI : PickOk) (HCO : CostTOk) (A : Option Addr) (c : Nat) (l : List (IntV .u8)) (a b : IntV .u16) (w : World) (hl : RowIn (enc1 .u8) 1 w w.heap.size A c l) :
    Calls Try.prog 7 #[.slice A l.length c, .int .u16 a.1, .int .u16 b.1] w fun e w' => e = .returned (.bool true) ∧ Below w.heap.size w w' := by
  by_cases h : 60 < l.length ∨ l.length = 0
  · exact cosOrder_h HPI HCO A c l a b w hl h
  · exact cosOrder_m HPI HCO A c l a b w hl (by omega) (by omega)
end Go.Proofs.Ytpoejbfcioijhaa
