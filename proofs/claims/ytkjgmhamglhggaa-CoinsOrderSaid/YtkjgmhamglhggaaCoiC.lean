/- The document's place, Ripe, Same of coins. -/
import Derived.Test.YtkjgmhamglhggaaCoiB
namespace Go.Proofs.Ytkjgmhamglhggaa
open Go.RowKit
abbrev PtV := K32 × IntV .u32
/-- where the first coin at a point stands, or -1 -/
def placeF (s : List CoinV) (p : PtV) : Int := match s.findIdx? (fun c => decide (c.at_ = p)) with
  | some i => i
  | none => -1
def ripeF (c : CoinV) (h : IntV .u32) : Bool := !c.b || decide (c.h.1 + 3 ≤ h.1)
theorem u32_le (z : IntV .u32) : 0 ≤ z.1 ∧ z.1 < 4294967296 := by
  have := z.2
  simp [Lit.wf, IntKind.min, IntKind.max, IntKind.signed, IntKind.bits] at this
  omega
set_option maxRecDepth 20000 in
set_option maxHeartbeats 1000000 in
theorem rRipe_r (c : CoinV) (h : IntV .u32) (w : World) :
    Calls Try.prog 22 #[.agg (encC c).toArray, .int .u32 h.1] w fun e w' => e = .returned (.bool (ripeF c h)) ∧ Below w.heap.size w w' := by
  obtain ⟨r, hr⟩ : ∃ r, ripeF c h = r := ⟨_, rfl⟩
  rw [hr]
  unfold ripeF at hr
  have hc := u32_le c.h
  have hh := u32_le h
  have cb : (w.alloc (.cells (encC c).toArray 52)).cell? ⟨w.heap.size, 67, none⟩ = some (.bool c.b) := by
    have := RowC.co_b (RowC.of_blk (Blk.new w 52 (encC c).toArray))
    simpa using this
  have ch : (w.alloc (.cells (encC c).toArray 52)).cell? ⟨w.heap.size, 66, none⟩ = some (.int .u32 c.h.1) := by
    have := RowC.co_h (RowC.of_blk (Blk.new w 52 (encC c).toArray))
    simpa using this
  have B0 := Lib.hid (show Below w.heap.size w (w.alloc (.cells (encC c).toArray 52)) from (Below.refl _ _).alloc (Nat.le_refl _) _)
  obtain ⟨b, hb⟩ : ∃ b, c.b = b := ⟨_, rfl⟩
  obtain ⟨z, hz⟩ : ∃ z, c.h.1 = z := ⟨_, rfl⟩
  obtain ⟨y, hy⟩ : ∃ y, h.1 = y := ⟨_, rfl⟩
  rw [hb, hz, hy] at hr
  rw [hb] at cb
  rw [hz] at ch hc
  rw [hy] at hh ⊢
  have h1 : IntKind.u64.wrap z = z := by rw [IntKind.wrap_u64]; omega
  have h2 : IntKind.u64.wrap y = y := by rw [IntKind.wrap_u64]; omega
  have h3 : IntKind.u64.wrap (z + 3) = z + 3 := by rw [IntKind.wrap_u64]; omega
  have HR := Lib.hid hr
  clear hr hb hz hy
  cases b with
  | false =>
    go_enter Try.func22, Try.ntmps22
    go_wp2_with fail
    go_ret
    exact ⟨by rw [← HR.out]; rfl, B0.out⟩
  | true =>
    obtain ⟨q, hq⟩ : ∃ q, decide (z + 3 ≤ y) = q := ⟨_, rfl⟩
    have HQ := Lib.hid hq
    go_enter Try.func22, Try.ntmps22
    go_wp2_with fail
    go_ret
    exact ⟨by rw [← HR.out, HQ.out]; rfl, B0.out⟩
theorem placeF_some {s : List CoinV} {p : PtV} {j : Nat} (hj : j < s.length) (hq : ∀ q (h : q < s.length), q < j → s[q].at_ ≠ p) (he : s[j].at_ = p) : placeF s p = (j : Int) := by
  have h : s.findIdx? (fun c => decide (c.at_ = p)) = some j := by
    rw [List.findIdx?_eq_some_iff_getElem]
    exact ⟨hj, by simpa using he, fun k hk => by simpa using hq k (by omega) hk⟩
  unfold placeF
  rw [h]
theorem placeF_none {s : List CoinV} {p : PtV} (hq : ∀ q (h : q < s.length), s[q].at_ ≠ p) : placeF s p = -1 := by
  have h : s.findIdx? (fun c => decide (c.at_ = p)) = none := by
    rw [List.findIdx?_eq_none_iff]
    intro x hx
    obtain ⟨q, hq1, rfl⟩ := List.getElem_of_mem hx
    simpa using hq q hq1
  unfold placeF
  rw [h]
set_option maxRecDepth 20000 in
set_option maxHeartbeats 2000000 in
theorem rPlace_r (A : Option Addr) (c : Nat) (l : List CoinV) (p : PtV) (w : World) (hl : RowIn encC 68 w w.heap.size A c l) (hn : l.length ≤ 100000) :
    Calls Try.prog 33 #[.slice A l.length c, .agg (encKI .u32 p).toArray] w fun e w' => e = .returned (.int .i64 (placeF l p)) ∧ Below w.heap.size w w' := by
  have B0 := Lib.hid (show Below w.heap.size w (w.alloc (.cells (encKI .u32 p).toArray 32)) from (Below.refl w.heap.size w).alloc (Nat.le_refl _) _)
  have K0 := Lib.hid (Blk.new w 32 (encKI .u32 p).toArray)
  have HL := Lib.hid hl
  clear hl
  go_enter Try.func33, Try.ntmps33
  go_wp2_with fail
  go_loopw [5] (fun i wr => ∃ j : Nat, i = .int .i64 j ∧ j ≤ l.length ∧ Hid (∀ q (h : q < l.length), q < j → l[q].at_ ≠ p) ∧ Hid (Below w.heap.size w wr ∧ Blk wr w.heap.size 32 (encKI .u32 p).toArray)) (fun i _ => l.length - (intOf i).toNat)
  case atStart => exact ⟨0, rfl, by omega, Lib.hid (fun q h h2 => absurd h2 (by omega)), Lib.hid ⟨B0.out, K0.out⟩⟩
  case round =>
    clear B0 K0
    obtain ⟨j, rfl, hj, HQ, HB⟩ := hrel
    by_cases hlt : j < l.length
    · have hd : decide ((j : Int) < (l.length : Int)) = true := by simp; omega
      obtain ⟨g, o, hA, hg, hc⟩ := (HL.out.below HB.out.1).at encC_len hlt
      obtain ⟨x, hx⟩ : ∃ x, l[j]'hlt = x := ⟨_, rfl⟩
      rw [hx] at hc
      have HX := Lib.hid hx
      subst hA
      have hi0 : (0 : Int) ≤ (j : Int) := by omega
      have hi1 : (j : Int) < (l.length : Int) := by omega
      have RX := Lib.hid (show ∀ W, From wr W → RowC W g (o + j * 68) (encKI .u32 x.at_) from fun W hC => RowC.co_at (hc.below hC.below (Nat.lt_of_lt_of_le hg HB.out.1.size)))
      have RK := Lib.hid (show ∀ W, From wr W → RowC W w.heap.size 0 (encKI .u32 p) from fun W hC => RowC.of_blk (below_blk hC.below HB.out.2 HB.out.2.lt))
      obtain ⟨q, hq⟩ : ∃ q, decide (x.at_ = p) = q := ⟨_, rfl⟩
      have HE := Lib.hid hq
      have HJ := Lib.hid (show j + 1 ≤ l.length by omega)
      clear hx hc hg hq
      go_wp2_with fail
      refine wp_region_from (by kernel_rfl) (by kernel_rfl) ?_
      repeat (first
        | go_big_quiet_skip
        | ((with_reducible refine at_qload 15 ?_); refine tyPt.wpQuiet_load (by rfl) (.tmp 15) rfl g (o + j * 68) rfl x.at_ RX.out ?_; simp only [Act.put, List.setIfInBounds_toArray, List.set_cons_succ, List.set_cons_zero])
        | ((with_reducible refine at_qload 3 ?_); refine tyPt.wpQuiet_load (by rfl) (.tmp 3) rfl w.heap.size 0 rfl p RK.out ?_; simp only [Act.put, List.setIfInBounds_toArray, List.set_cons_succ, List.set_cons_zero])
        | ((with_reducible refine at_qeql 16 17 ?_); refine wpQuiet_eql_row (by rfl) 32 32 (.tmp 16) (.tmp 17) rfl (encKI .u32 x.at_).toArray (encKI .u32 p).toArray rfl rfl (by kernel_rfl) q (fun V => (eqPt_run _ _ V).trans (by rw [HE.out])) ?_; simp only [Act.put, List.setIfInBounds_toArray, List.set_cons_succ, List.set_cons_zero])
        | (go_big_quiet_want; go_big_quiet_op; refine ⟨_, fun _ _ => by with_reducible rfl, ?_⟩; go_big_quiet_on)
        | go_big_quiet_step (fail))
      refine wpQuiet_nil ?_
      intro w9 hC
      have B9 := Lib.hid (show Below w.heap.size w w9 ∧ Blk w9 w.heap.size 32 (encKI .u32 p).toArray from ⟨HB.out.1.trans (hC.below.mono HB.out.1.size), below_blk hC.below HB.out.2 HB.out.2.lt⟩)
      clear hC RX RK
      cases q with
      | true =>
        have HT := Lib.hid (show placeF l p = (j : Int) from placeF_some hlt HQ.out (by rw [HX.out]; exact of_decide_eq_true HE.out))
        go_wp2_with fail
        go_ret
        exact ⟨by rw [HT.out]; rfl, B9.out.1⟩
      | false =>
        have HQ2 := Lib.hid (show ∀ q (h : q < l.length), q < j + 1 → l[q].at_ ≠ p from fun q h h2 => by
          rcases Nat.lt_or_ge q j with e | e
          · exact HQ.out q h e
          · obtain rfl : q = j := Nat.le_antisymm (Nat.le_of_lt_succ h2) e
            rw [HX.out]
            exact of_decide_eq_false HE.out)
        go_wp2_with fail
        go_roundw
        case rel => exact ⟨j + 1, by go_num, HJ.out, HQ2, B9⟩
        case measure => simp [intOf]; omega
    · have hd : decide ((j : Int) < (l.length : Int)) = false := by simp; omega
      have HF := Lib.hid (show placeF l p = -1 from placeF_none (fun q h => HQ.out q h (by omega)))
      go_wp2_with fail
      go_ret
      exact ⟨by rw [HF.out]; rfl, HB.out.1⟩
end Go.Proofs.Ytkjgmhamglhggaa
