/- The reference's May, Add, Sub, Sum and Fee. -/
import Derived.Test.YtimhophelecmjaaMonA
namespace Go.Proofs.Ytimhophelecmjaa
open Go.RowKit
theorem rmay_yes (a : Int) (h : mayB a = true) (w : World) : Calls Try.prog 27 #[.int .i64 a] w fun e w' => e = .returned (.bool true) ∧ w = w' := by
  obtain ⟨h1, h2⟩ := mayB_yes h
  clear h
  go_enter Try.func27, Try.ntmps27
  go_wp2
  go_ret
  exact ⟨rfl, rfl⟩
theorem rmay_no (a : Int) (h : mayB a = false) (w : World) : Calls Try.prog 27 #[.int .i64 a] w fun e w' => e = .returned (.bool false) ∧ w = w' := by
  by_cases h0 : a < 0
  · clear h
    go_enter Try.func27, Try.ntmps27
    go_wp2
    go_ret
    exact ⟨rfl, rfl⟩
  · have h1 := (mayB_no h).resolve_left h0
    have h2 : 0 ≤ a := by omega
    have hd : decide (a ≤ 2100000000000000) = false := by simp; omega
    clear h h0
    go_enter Try.func27, Try.ntmps27
    go_wp2
    go_ret
    exact ⟨rfl, rfl⟩
theorem radd_any (a b : Int) (w : World) : Calls Try.prog 24 #[.int .i64 a, .int .i64 b] w fun e w' => e = .returned (resO (addO a b)) ∧ w = w' := by
  by_cases ha : mayB a = true
  · by_cases hb : mayB b = true
    · obtain ⟨a1, a2⟩ := mayB_yes ha
      obtain ⟨b1, b2⟩ := mayB_yes hb
      by_cases hs : a + b ≤ 2100000000000000
      · have he : addO a b = some (a + b) := by
          have : mayB (a + b) = true := mayB_mk ⟨by omega, hs⟩
          simp [addO, ha, hb, this]
        rw [he]
        clear he
        have HA := Lib.hid ha
        have HB := Lib.hid hb
        clear ha hb
        go_enter Try.func24, Try.ntmps24
        go_wp2_with fail
        refine (rmay_yes a HA.out _).mono ?_
        rintro e w' ⟨rfl, rfl⟩
        go_wp2_with fail
        refine (rmay_yes b HB.out _).mono ?_
        rintro e w' ⟨rfl, rfl⟩
        go_wp2
        go_ret2
        exact ⟨rfl, rfl⟩
      · have he : addO a b = none := by
          have : mayB (a + b) = false := mayB_mk_no (.inr (by omega))
          simp [addO, this]
        rw [he]
        clear he
        have HA := Lib.hid ha
        have HB := Lib.hid hb
        clear ha hb
        go_enter Try.func24, Try.ntmps24
        go_wp2_with fail
        refine (rmay_yes a HA.out _).mono ?_
        rintro e w' ⟨rfl, rfl⟩
        go_wp2_with fail
        refine (rmay_yes b HB.out _).mono ?_
        rintro e w' ⟨rfl, rfl⟩
        go_wp2
        go_ret2
        exact ⟨rfl, rfl⟩
    · have hb' : mayB b = false := by simpa using hb
      rw [show addO a b = none by simp [addO, hb']]
      have HA := Lib.hid ha
      have HB := Lib.hid hb'
      clear ha hb hb'
      go_enter Try.func24, Try.ntmps24
      go_wp2_with fail
      refine (rmay_yes a HA.out _).mono ?_
      rintro e w' ⟨rfl, rfl⟩
      go_wp2_with fail
      refine (rmay_no b HB.out _).mono ?_
      rintro e w' ⟨rfl, rfl⟩
      go_wp2
      go_ret2
      exact ⟨rfl, rfl⟩
  · have ha' : mayB a = false := by simpa using ha
    rw [show addO a b = none by simp [addO, ha']]
    have HA := Lib.hid ha'
    clear ha ha'
    go_enter Try.func24, Try.ntmps24
    go_wp2_with fail
    refine (rmay_no a HA.out _).mono ?_
    rintro e w' ⟨rfl, rfl⟩
    go_wp2
    go_ret2
    exact ⟨rfl, rfl⟩
set_option maxRecDepth 20000 in
set_option maxHeartbeats 1000000 in
theorem rsum_any (zs : List Int) (A : Option Addr) (n cap B : Nat) (w : World) (hr : Reads w B 1 A n (ints zs)) (hm : n ≤ maxLen) :
    Calls Try.prog 16 #[.slice A n cap] w fun e w' => e = .returned (resO (sumO 0 zs)) ∧ w = w' := by
  have hlen : zs.length = n := by have := hr.1; rw [ints_len] at this; omega
  unfold maxLen at hm
  have HR := Lib.hid hr
  have HL := Lib.hid hlen
  clear hr hlen
  go_enter Try.func16, Try.ntmps16
  go_wp2
  go_loop [4, 5] (fun t i => ∃ k : Nat, k ≤ n ∧ i = .int .i64 k ∧ ∃ s : Int, t = .int .i64 s ∧ Hid (sumO 0 (zs.take k) = some s)) (fun _ i => n - (intOf i).toNat)
  case atStart => exact ⟨0, Nat.zero_le _, rfl, 0, rfl, Lib.hid rfl⟩
  case round =>
    obtain ⟨k, hk, rfl, s, rfl, HS⟩ := hrel
    by_cases hlt : k < n
    · obtain ⟨ad, rfl, hc⟩ := ints_at HR.out hlt
      have hsn := Lib.hid ((congrArg (sumO 0) (take_snocD zs k (by have := HL.out; omega))).trans (sumO_snoc (zs.take k) (zs.getD k 0) 0 s HS.out))
      obtain ⟨x, hx⟩ : ∃ x, zs.getD k 0 = x := ⟨_, rfl⟩
      rw [hx] at hsn hc
      clear hx
      go_wp2_with fail
      refine (radd_any s x _).mono ?_
      rintro e w' ⟨rfl, rfl⟩
      cases ha : addO s x with
      | some s2 =>
        have HA := Lib.hid ha
        clear ha
        simp only [resO, valO, errO, Option.getD_some]
        go_wp2
        go_round
        case rel => exact ⟨k + 1, by omega, by go_num, s2, rfl, Lib.hid (by rw [hsn.out, HA.out])⟩
        case measure => simp [intOf]; omega
      | none =>
        have hnone : sumO 0 zs = none := sumO_none_take (k := k + 1) (by rw [hsn.out, ha])
        have HN := Lib.hid hnone
        clear ha hnone
        simp only [resO, valO, errO, Option.getD_none]
        go_wp2
        go_ret2
        exact ⟨by rw [HN.out]; rfl, rfl⟩
    · have hkn := Lib.hid (show zs.take k = zs from List.take_of_length_le (by have := HL.out; omega))
      go_wp2
      go_ret2
      exact ⟨by rw [← hkn.out, HS.out]; rfl, rfl⟩
end Go.Proofs.Ytimhophelecmjaa
