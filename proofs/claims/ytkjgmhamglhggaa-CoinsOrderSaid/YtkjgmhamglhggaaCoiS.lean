/- The document's Same of lists of coins (as asame_any). -/
import Derived.Test.YtkjgmhamglhggaaCoiB
namespace Go.Proofs.Ytkjgmhamglhggaa
open Go.RowKit
theorem ctake_eq_succ {α : Type} {l m : List α} {j : Nat} (h : l.take j = m.take j) (h1 : j < l.length) (h2 : j < m.length) (he : l[j] = m[j]) : l.take (j + 1) = m.take (j + 1) := by
  rw [List.take_succ_eq_append_getElem h1, List.take_succ_eq_append_getElem h2, h, he]
set_option maxRecDepth 20000 in
set_option maxHeartbeats 4000000 in
theorem csame_any (A B : Option Addr) (c d : Nat) (l m : List CoinV) (w : World) (ha : RowIn encC 68 w w.heap.size A c l) (hb : RowIn encC 68 w w.heap.size B d m) :
    Calls Try.prog 18 #[.slice A l.length c, .slice B m.length d] w fun e w' => e = .returned (.bool (decide (l = m))) ∧ Below w.heap.size w w' := by
  obtain ⟨s, hs⟩ : ∃ s, decide (l = m) = s := ⟨_, rfl⟩
  rw [hs]
  have hm0 : l.length ≤ 9223372036854775807 := by have h1 := ha.le; have h2 := ha.max; unfold maxLen at h2; omega
  have HS := Lib.hid hs
  have IA := Lib.hid ha
  have IB := Lib.hid hb
  clear hs ha hb
  by_cases hl : l.length = m.length
  · have HL := Lib.hid hl
    have hne : ((l.length : Int) != (m.length : Int)) = false := by rw [hl]; simp
    clear hl
    go_enter Try.func18, Try.ntmps18
    go_wp2_with fail
    clear hne
    go_loopw [5] (fun i wr => ∃ j : Nat, j ≤ l.length ∧ i = .int .i64 j ∧ Hid (l.take j = m.take j ∧ Below w.heap.size w wr)) (fun i _ => l.length - (intOf i).toNat)
    case atStart => exact ⟨0, Nat.zero_le _, rfl, Lib.hid ⟨rfl, Below.refl _ _⟩⟩
    case round =>
      obtain ⟨j, hj, rfl, hx⟩ := hrel
      by_cases hlt : j < l.length
      · have hltb : j < m.length := by have := HL.out; omega
        obtain ⟨g1, o1, rfl, l1, rc1⟩ := IA.out.at (encC_len) hlt
        obtain ⟨g2, o2, rfl, l2, rc2⟩ := IB.out.at (encC_len) hltb
        have zr := hx.out.2.size
        have RA := Lib.hid (fun (w' : World) (hC : From wr w') => (rc1.below hx.out.2 l1).below hC.below (by omega))
        have RB := Lib.hid (fun (w' : World) (hC : From wr w') => (rc2.below hx.out.2 l2).below hC.below (by omega))
        clear rc1 rc2 zr
        go_wp2_with fail
        obtain ⟨q, hq⟩ : ∃ q, decide (l[j] = m[j]) = q := ⟨_, rfl⟩
        have HQ := Lib.hid hq
        clear hq
        refine wp_region_from (by kernel_rfl) (by kernel_rfl) ?_
        repeat (first
          | go_big_quiet_skip
          | ((with_reducible refine at_qload 19 ?_); refine tyCr.wpQuiet_load (by rfl) (.tmp 19) rfl g1 (o1 + j * 68) rfl l[j] RA.out ?_; simp only [Act.put, List.setIfInBounds_toArray, List.set_cons_succ, List.set_cons_zero])
          | ((with_reducible refine at_qload 23 ?_); refine tyCr.wpQuiet_load (by rfl) (.tmp 23) rfl g2 (o2 + j * 68) rfl m[j] RB.out ?_; simp only [Act.put, List.setIfInBounds_toArray, List.set_cons_succ, List.set_cons_zero])
          | ((with_reducible refine at_qneq 20 24 ?_); refine wpQuiet_neq_row (by rfl) 52 52 (.tmp 20) (.tmp 24) rfl (encC l[j]).toArray (encC m[j]).toArray rfl rfl (by kernel_rfl) q (fun V => (eqCr_run _ _ V).trans (by rw [HQ.out])) ?_; simp only [Act.put, List.setIfInBounds_toArray, List.set_cons_succ, List.set_cons_zero])
          | (go_big_quiet_want; go_big_quiet_op; refine ⟨_, fun _ _ => by with_reducible rfl, ?_⟩; go_big_quiet_on)
          | go_big_quiet_step (fail))
        refine wpQuiet_nil ?_
        intro w9 hC
        have B9 := Lib.hid (hx.out.2.trans (hC.below.mono hx.out.2.size))
        clear hC RA RB
        cases q with
        | false =>
          have HE := Lib.hid (show s = false by
            rw [← HS.out, decide_eq_false_iff_not]
            intro e
            have hn : l[j] ≠ m[j] := by simpa using HQ.out
            exact hn (by simp only [e]))
          go_wp2_with fail
          go_ret
          refine ⟨?_, B9.out⟩
          rw [HE.out]
          rfl
        | true =>
          go_wp2_with fail
          go_roundw
          case rel => exact ⟨j + 1, by omega, by go_num, Lib.hid ⟨ctake_eq_succ hx.out.1 hlt hltb (by simpa using HQ.out), B9.out⟩⟩
          case measure => simp [intOf]; omega
      · have HE := Lib.hid (show s = true by
          rw [← HS.out, decide_eq_true_iff]
          have h1 := hx.out.1
          have h2 := HL.out
          rwa [List.take_of_length_le (by omega), List.take_of_length_le (by omega)] at h1)
        have hje : j = l.length := by omega
        have hd : decide ((j : Int) < (l.length : Int)) = false := by simp; omega
        go_wp2
        go_ret
        refine ⟨?_, hx.out.2⟩
        rw [HE.out]
        rfl
  · have hne : ((l.length : Int) != (m.length : Int)) = true := by simp; omega
    have HE := Lib.hid (show s = false by
      rw [← HS.out, decide_eq_false_iff_not]
      intro e
      exact hl (by rw [e]))
    clear hl
    go_enter Try.func18, Try.ntmps18
    go_wp2
    go_ret
    refine ⟨?_, Below.refl _ _⟩
    rw [HE.out]
    rfl
end Go.Proofs.Ytkjgmhamglhggaa
