/- money's May, must, less and sum: their contracts. -/
import Derived.Test.YticphjnabecanaaGenA
import Derived.Test.YticphjnabecanaaMonP
import Derived.Test.YticphjnabecanaaChecked
import Derived.WalkLawsBesides
namespace Go.Proofs.Yticphjnabecanaa
open Go.RowKit
theorem may_yes (a : Int) (h : mayB a = true) (w : World) : Calls Try.prog 98 #[.int .i64 a] w fun e w' => e = .returned (.bool true) ∧ w = w' := by
  obtain ⟨h1, h2⟩ := mayB_yes h
  clear h
  go_enter Try.func98, Try.ntmps98
  go_wp2
  go_ret
  exact ⟨rfl, rfl⟩
theorem may_no (a : Int) (h : mayB a = false) (w : World) : Calls Try.prog 98 #[.int .i64 a] w fun e w' => e = .returned (.bool false) ∧ w = w' := by
  by_cases h0 : a < 0
  · clear h
    go_enter Try.func98, Try.ntmps98
    go_wp2
    go_ret
    exact ⟨rfl, rfl⟩
  · have h1 := (mayB_no h).resolve_left h0
    have h2 : 0 ≤ a := by omega
    have hd : decide (a ≤ 2100000000000000) = false := by simp; omega
    clear h h0
    go_enter Try.func98, Try.ntmps98
    go_wp2
    go_ret
    exact ⟨rfl, rfl⟩
theorem must_yes (a : Int) (h : mayB a = true) (w : World) : Calls Try.prog 86 #[.int .i64 a] w fun e w' => e = .returned (.int .i64 a) ∧ w = w' := by
  go_enter Try.func86, Try.ntmps86
  go_wp2_with fail
  refine (may_yes a h _).mono ?_
  rintro e w' ⟨rfl, rfl⟩
  go_wp2
  go_ret
  exact ⟨rfl, rfl⟩
theorem must_no (a : Int) (h : mayB a = false) (w : World) : Calls Try.prog 86 #[.int .i64 a] w fun e w' => e = .panicked errCh ∧ w = w' := by
  go_enter Try.func86, Try.ntmps86
  go_wp2_with fail
  refine (may_no a h _).mono ?_
  rintro e w' ⟨rfl, rfl⟩
  go_wp2
  exact ⟨rfl, rfl, rfl⟩
def ints (zs : List Int) : List Value := zs.map (.int .i64)
theorem ints_len (zs : List Int) : (ints zs).length = zs.length := List.length_map _
theorem ints_at {w : World} {B n : Nat} {A : Option Addr} {zs : List Int} {k : Nat} (h : Reads w B 1 A n (ints zs)) (hk : k < n) :
    ∃ ad, A = some ad ∧ w.cell? (ad.add k) = some (.int .i64 (zs.getD k 0)) := by
  obtain ⟨ad, u, e, _, hu, hc⟩ := h.at_ hk
  refine ⟨ad, e, ?_⟩
  have hl : k < zs.length := by have := h.1; rw [ints_len] at this; omega
  rw [hc]
  rw [ints, List.getElem?_map, List.getElem?_eq_getElem hl] at hu
  simp only [Option.map_some, Option.some.injEq] at hu
  rw [← hu, List.getD_eq_getElem?_getD, List.getElem?_eq_getElem hl]; rfl
theorem take_snocD (zs : List Int) (k : Nat) (hk : k < zs.length) : zs.take (k + 1) = zs.take k ++ [zs.getD k 0] := by
  rw [List.take_succ_eq_append_getElem hk, List.getD_eq_getElem?_getD, List.getElem?_eq_getElem hk]; rfl
set_option maxRecDepth 20000 in
set_option maxHeartbeats 1000000 in
theorem msum_any (zs : List Int) (A : Option Addr) (n cap B : Nat) (w : World) (hr : Reads w B 1 A n (ints zs)) (hm : n ≤ maxLen) :
    Calls Try.prog 80 #[.slice A n cap] w fun e w' => e = endO (sumO 0 zs) ∧ w = w' := by
  have hlen : zs.length = n := by have := hr.1; rw [ints_len] at this; omega
  unfold maxLen at hm
  have HR := Lib.hid hr
  have HL := Lib.hid hlen
  clear hr hlen
  go_enter Try.func80, Try.ntmps80
  go_wp2
  go_loop [3, 8] (fun t i => ∃ k : Nat, k ≤ n ∧ i = .int .i64 k ∧ ∃ s : Int, t = .int .i64 s ∧ Hid (sumO 0 (zs.take k) = some s)) (fun _ i => n - (intOf i).toNat)
  case atStart => exact ⟨0, Nat.zero_le _, rfl, 0, rfl, Lib.hid rfl⟩
  case round =>
    obtain ⟨k, hk, rfl, s, rfl, HS⟩ := hrel
    by_cases hlt : k < n
    · obtain ⟨ad, rfl, hc⟩ := ints_at HR.out hlt
      have hsn := Lib.hid ((congrArg (sumO 0) (take_snocD zs k (by have := HL.out; omega))).trans (sumO_snoc (zs.take k) (zs.getD k 0) 0 s HS.out))
      have g1 := mayB_yes (sumO_may _ 0 s (by decide) HS.out)
      obtain ⟨x, hx⟩ : ∃ x, zs.getD k 0 = x := ⟨_, rfl⟩
      rw [hx] at hsn hc
      clear hx
      go_wp2_with fail
      cases ha : addO s x with
      | some s2 =>
        obtain ⟨_, h2, h3, he⟩ := addO_some ha
        subst he
        have g2 := mayB_yes h2
        have HA := Lib.hid ha
        clear ha
        refine (must_yes x h2 _).mono ?_
        rintro e w' ⟨rfl, rfl⟩
        clear h2
        go_wp2_with fail
        refine (must_yes (s + x) h3 _).mono ?_
        rintro e w' ⟨rfl, rfl⟩
        clear h3
        go_wp2
        go_round
        case rel => exact ⟨k + 1, by omega, by go_num, s + x, rfl, Lib.hid (by rw [hsn.out, HA.out])⟩
        case measure => simp [intOf]; omega
      | none =>
        have hnone : sumO 0 zs = none := sumO_none_take (k := k + 1) (by rw [hsn.out, ha])
        have hh := addO_none (mayB_mk g1) ha
        have HN := Lib.hid hnone
        clear ha hnone
        by_cases h2 : mayB x = true
        · have h3 := (hh.resolve_left (by simp [h2])).2
          have g2 := mayB_yes h2
          have H3 := Lib.hid h3
          clear h3 hh
          refine (must_yes x h2 _).mono ?_
          rintro e w' ⟨rfl, rfl⟩
          clear h2
          go_wp2_with fail
          refine (must_no (s + x) H3.out _).mono ?_
          rintro e w' ⟨rfl, rfl⟩
          exact ⟨rfl, by rw [HN.out]; rfl, rfl⟩
        · refine (must_no x (by simpa using h2) _).mono ?_
          rintro e w' ⟨rfl, rfl⟩
          exact ⟨rfl, by rw [HN.out]; rfl, rfl⟩
    · have hkn := Lib.hid (show zs.take k = zs from List.take_of_length_le (by have := HL.out; omega))
      go_wp2
      go_ret
      exact ⟨by rw [← hkn.out, HS.out]; rfl, rfl⟩
end Go.Proofs.Yticphjnabecanaa
