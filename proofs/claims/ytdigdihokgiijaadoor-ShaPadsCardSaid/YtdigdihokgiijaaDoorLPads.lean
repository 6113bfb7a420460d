/- ShaPads: the statement's walk. -/
import Derived.Test.YtdigdihokgiijaaDoorShaG
import Derived.Test.YtdigdihokgiijaaDoorRefW
import Derived.Test.YtdigdihokgiijaaDoorRefP
import Derived.Test.YtdigdihokgiijaaDoorQuiet
namespace Go.Proofs.YtdigdihokgiijaaDoor
open Go.RowKit
set_option maxHeartbeats 2000000 in
theorem pads_walk (s : ByteArray) (hs : s.size ≤ maxLen) (w : World) (hR : Roots w) :
    Calls Tryd.prog 4 #[.string s] w fun e w' => e = .returned (.bool true) ∧ Below w.heap.size w w' := by
  unfold maxLen at hs
  have HR := Lib.hid hR
  clear hR
  by_cases h1 : 2048 < s.size
  · go_enter Tryd.func4, Tryd.ntmps4
    go_wp2_with fail
    refine (shown_any _ HR.out).mono ?_
    rintro e w1 ⟨rfl, b1⟩
    go_wp2
    go_ret
    exact ⟨rfl, b1⟩
  go_enter Tryd.func4, Tryd.ntmps4
  go_wp2_with fail
  refine (shown_any _ HR.out).mono ?_
  rintro e w1 ⟨rfl, B1⟩
  go_wp2_with fail
  refine (words_any s (by omega) _).mono ?_
  rintro e w2 ⟨rfl, k2, b2⟩
  obtain ⟨m, hm⟩ : ∃ m, s.size / 4 = m := ⟨_, rfl⟩
  have HM := Lib.hid hm
  have hm2 : m ≤ 512 := by omega
  rw [hm] at k2
  rw [hm]
  clear hm
  have B2 := B1.trans (b2.mono B1.size)
  have KA := Lib.hid k2
  obtain ⟨ga, hga⟩ : ∃ g, w1.heap.size = g := ⟨_, rfl⟩
  rw [hga] at KA
  rw [hga]
  clear hga k2 b2 B1
  go_wp2_with fail
  refine (refWords_any s (by omega) _).mono ?_
  rintro e w3 ⟨v, rfl, k3, b3⟩
  rw [HM.out] at k3
  have B3 := B2.trans (b3.mono B2.size)
  replace KA := Lib.hid (below_blk b3 KA.out KA.out.lt)
  obtain ⟨A3, c3, rfl⟩ := own_shape k3
  have KB := Lib.hid (Reads.of_own k3)
  clear k3 b3 B2
  go_wp2_with fail
  refine (pad_any s (by omega) _).mono ?_
  rintro e w4 ⟨rfl, b4⟩
  have B4 := B3.trans (b4.mono B3.size)
  replace KA := Lib.hid (below_blk b4 KA.out KA.out.lt)
  replace KB := Lib.hid ((KB.out.below b4).more b4.size)
  clear b4 B3
  obtain ⟨p, hp⟩ : ∃ p : ByteArray, (⟨(padL s.data.toList).toArray⟩ : ByteArray) = p := ⟨_, rfl⟩
  rw [hp]
  have HP := Lib.hid hp
  clear hp
  go_wp2_with fail
  refine (refPad_any s (by omega) _).mono ?_
  rintro e w5 ⟨rfl, b5⟩
  have B5 := B4.trans (b5.mono B4.size)
  replace KA := Lib.hid (below_blk b5 KA.out KA.out.lt)
  replace KB := Lib.hid ((KB.out.below b5).more b5.size)
  clear b5 B4
  rw [HP.out]
  have HB5 := Lib.hid B5
  clear B5
  go_wp2_with fail
  go_loopw [5] (fun i wr => ∃ k : Nat, k ≤ m ∧ i = .int .i64 k ∧ Hid (Blk wr ga 31 (uarr m (wordL s.data.toList)) ∧ Reads wr wr.heap.size 1 A3 m (uarr m (wordL s.data.toList)).toList ∧ Below w.heap.size w wr)) (fun i _ => m - (intOf i).toNat)
  case atStart => exact ⟨0, by omega, rfl, Lib.hid ⟨KA.out, KB.out, HB5.out⟩⟩
  case round =>
    clear KA KB HB5
    obtain ⟨k, hk, rfl, HK⟩ := hrel
    by_cases hlt : k < m
    · obtain ⟨ad, u, rfl, _, hu, hc⟩ := HK.out.2.1.at_ hlt
      have cA : wr.cell? ⟨ga, k, none⟩ = some (.int .u32 (wv (wordL s.data.toList k))) := by rw [HK.out.1.cell k, uarr_get _ _ _ hlt]
      have cB : wr.cell? (ad.add k) = some (.int .u32 (wv (wordL s.data.toList k))) := by
        rw [hc, ← hu, Array.getElem?_toList, uarr_get _ _ _ hlt]
      clear hu hc
      obtain ⟨x, hx⟩ : ∃ x, wv (wordL s.data.toList k) = x := ⟨_, rfl⟩
      rw [hx] at cA cB
      clear hx
      have d7 : (0 : Int) ≤ k := by omega
      have d8 : (k : Int) < m := by omega
      go_wp2_with fail
      go_quiet (fail)
      go_wp2_with fail
      go_roundw
      case rel => exact ⟨k + 1, by omega, by go_num, Lib.hid ⟨HK.out.1.drewN _, HK.out.2.1.drewN _, below_drewN HK.out.2.2 _⟩⟩
      case measure => simp [intOf]; omega
    · go_wp2
      go_ret
      exact ⟨rfl, HK.out.2.2⟩
end Go.Proofs.YtdigdihokgiijaaDoor
