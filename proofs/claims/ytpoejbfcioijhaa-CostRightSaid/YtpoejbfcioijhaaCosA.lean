/- Costs: plain; the document's Sum. -/
import Derived.Test.YtpoejbfcioijhaaTxTy
import Derived.Test.YtpoejbfcioijhaaCellB
namespace Go.Proofs.Ytpoejbfcioijhaa
open Go.RowKit
/-- a weight that may be -/
def okW (z : IntV .i64) : Bool := !(decide (z.1 < 1)) && !(decide (1099511627776 < z.1))
def sumI : List (IntV .i64) → Int
  | [] => 0
  | z :: l => z.1 + sumI l
theorem sumI_snoc (x : IntV .i64) : ∀ l : List (IntV .i64), sumI (l ++ [x]) = sumI l + x.1
  | [] => by simp [sumI]
  | z :: l => by
    have := sumI_snoc x l
    simp only [List.cons_append, sumI, this]
    omega
def sumW (l : List (IntV .i64)) : Option Int := if l.all okW && decide (l.length ≤ 1000) then some (sumI l) else none
theorem okW_rng {z : IntV .i64} (h : okW z = true) : 1 ≤ z.1 ∧ z.1 ≤ 1099511627776 := by
  unfold okW at h
  simp only [Bool.and_eq_true, Bool.not_eq_true', decide_eq_false_iff_not] at h
  omega
theorem sumW_bad {l : List (IntV .i64)} {x : IntV .i64} (hx : x ∈ l) (h : okW x = false) : sumW l = none := by
  have : l.all okW = false := by rw [List.all_eq_false]; exact ⟨x, hx, by simp [h]⟩
  unfold sumW
  rw [this]
  rfl
theorem sumW_long {l : List (IntV .i64)} (h : 1000 < l.length) : sumW l = none := by
  unfold sumW
  rw [decide_eq_false (by omega)]
  simp
theorem sumW_ok {l : List (IntV .i64)} (h : l.all okW = true) (hl : l.length ≤ 1000) : sumW l = some (sumI l) := by
  unfold sumW
  rw [h, decide_eq_true hl]
  rfl
theorem sumI_rng : ∀ l : List (IntV .i64), l.all okW = true → (l.length : Int) ≤ sumI l ∧ sumI l ≤ 1099511627776 * l.length
  | [], _ => by simp [sumI]
  | z :: l, h => by
    simp only [List.all_cons, Bool.and_eq_true] at h
    have h1 := okW_rng h.1
    have h2 := sumI_rng l h.2
    simp only [sumI, List.length_cons]
    omega
/-- what Sum answers -/
def sumV (l : List (IntV .i64)) : Value := .tuple #[.int .i64 ((sumW l).getD 0), .bool (sumW l).isSome]
structure SumS (l : List (IntV .i64)) (j : Nat) (n : Int) : Prop where
  ok : (l.take j).all okW = true
  n : n = sumI (l.take (min j 1000))
theorem SumS.rng {l : List (IntV .i64)} {j : Nat} {n : Int} (h : SumS l j n) : 0 ≤ n ∧ n ≤ 1099511627776000 := by
  have h1 : (l.take (min j 1000)).all okW = true := by
    rw [List.all_eq_true]
    intro x hx
    refine List.all_eq_true.1 h.ok x ?_
    have e : l.take (min j 1000) = (l.take j).take 1000 := by rw [List.take_take, Nat.min_comm]
    rw [e] at hx
    exact List.mem_of_mem_take hx
  have h2 := sumI_rng _ h1
  have h3 : (l.take (min j 1000)).length ≤ 1000 := by rw [List.length_take]; omega
  rw [← h.n] at h2
  omega
theorem SumS.next {l : List (IntV .i64)} {j : Nat} {n : Int} (h : SumS l j n) (hj : j < l.length) (hx : okW l[j] = true) : SumS l (j + 1) (if j < 1000 then n + l[j].1 else n) := by
  have e : l.take (j + 1) = l.take j ++ [l[j]] := List.take_succ_eq_append_getElem hj
  refine ⟨?_, ?_⟩
  · rw [e, List.all_append, h.ok]
    simp [hx]
  · by_cases h1 : j < 1000
    · rw [if_pos h1, h.n, show min (j + 1) 1000 = j + 1 by omega, show min j 1000 = j by omega, e, sumI_snoc]
    · rw [if_neg h1, h.n, show min (j + 1) 1000 = 1000 by omega, show min j 1000 = 1000 by omega]
set_option maxRecDepth 20000 in
theorem rSum_w (A : Option Addr) (c : Nat) (l : List (IntV .i64)) (w : World) (h : RowIn (enc1 .i64) 1 w w.heap.size A c l) (hn : l.length ≤ 1000000) :
    Calls Try.prog 11 #[.slice A l.length c] w fun e w' => e = .returned (sumV l) ∧ Below w.heap.size w w' := by
  have IN := Lib.hid h
  have HN := Lib.hid hn
  have HB := Lib.hid (Below.refl w.heap.size w)
  have HS := Lib.hid (show SumS l 0 0 from ⟨rfl, rfl⟩)
  have hm0 : l.length ≤ 9223372036854775807 := by omega
  clear h hn
  go_enter Try.func11, Try.ntmps11
  go_wp2_with fail
  go_loopw [4, 5] (fun sn si wr => ∃ (j : Nat) (n : Int), sn = .int .i64 n ∧ si = .int .i64 j ∧ j ≤ l.length ∧ Hid (SumS l j n) ∧ Hid (Below w.heap.size w wr)) (fun _ si _ => l.length - (intOf si).toNat)
  case atStart => exact ⟨0, 0, rfl, rfl, Nat.zero_le _, HS, HB⟩
  case round =>
    clear HS HB
    obtain ⟨j, n, rfl, rfl, hj, HS, HB⟩ := hrel
    by_cases hlt : j < l.length
    · have hd : decide ((j : Int) < (l.length : Int)) = true := by simp; omega
      have hi0 : (0 : Int) ≤ (j : Int) := by omega
      have hi1 : (j : Int) < (l.length : Int) := by omega
      obtain ⟨g, o, hA, hg, hc⟩ := (IN.out.below HB.out).at (enc1_len _) hlt
      obtain ⟨x, hx⟩ : ∃ x, l[j]'hlt = x := ⟨_, rfl⟩
      rw [hx] at hc
      have k1 : wr.cell? ⟨g, o + j, none⟩ = some (.int .i64 x.1) := by have := hc.head; simpa using this
      have HMEM := Lib.hid (show x ∈ l from hx ▸ List.getElem_mem hlt)
      have HNX := Lib.hid (show okW x = true → SumS l (j + 1) (if j < 1000 then n + x.1 else n) from fun hk => by
        have := HS.out.next hlt (by rw [hx]; exact hk)
        rwa [hx] at this)
      have HLT := Lib.hid hlt
      subst hA
      clear hc hx hg
      obtain ⟨q1, hq1⟩ : ∃ q, decide (x.1 < 1) = q := ⟨_, rfl⟩
      obtain ⟨q2, hq2⟩ : ∃ q, decide (1099511627776 < x.1) = q := ⟨_, rfl⟩
      have HQ := Lib.hid (show okW x = (!q1 && !q2) by unfold okW; rw [hq1, hq2])
      cases q1 with
      | true =>
        have HR := Lib.hid (show sumV l = .tuple #[.int .i64 0, .bool false] by unfold sumV; rw [sumW_bad HMEM.out (by rw [HQ.out]; rfl)]; rfl)
        go_wp2_with fail
        go_ret2
        exact ⟨by rw [HR.out]; rfl, HB.out⟩
      | false =>
        cases q2 with
        | true =>
          have HR := Lib.hid (show sumV l = .tuple #[.int .i64 0, .bool false] by unfold sumV; rw [sumW_bad HMEM.out (by rw [HQ.out]; rfl)]; rfl)
          go_wp2_with fail
          go_ret2
          exact ⟨by rw [HR.out]; rfl, HB.out⟩
        | false =>
          have HOK := Lib.hid (show okW x = true by rw [HQ.out]; rfl)
          have hw : IntKind.i64.wrap (n + x.1) = n + x.1 := by
            have h1 := HS.out.rng
            have h2 := okW_rng HOK.out
            rw [IntKind.wrap_i64]; omega
          by_cases h10 : j < 1000
          · have hd3 : decide ((j : Int) < 1000) = true := by simp; omega
            have HS2 := Lib.hid (show SumS l (j + 1) (n + x.1) from by have := HNX.out HOK.out; rwa [if_pos h10] at this)
            go_wp2_with fail
            go_roundw
            case rel => exact ⟨j + 1, n + x.1, by first | rfl | go_num, by go_num, HLT.out, HS2, HB⟩
            case measure => have := HLT.out; simp [intOf]; omega
          · have hd3 : decide ((j : Int) < 1000) = false := by simp; omega
            have HS2 := Lib.hid (show SumS l (j + 1) n from by have := HNX.out HOK.out; rwa [if_neg h10] at this)
            go_wp2_with fail
            go_roundw
            case rel => exact ⟨j + 1, n, rfl, by go_num, HLT.out, HS2, HB⟩
            case measure => have := HLT.out; simp [intOf]; omega
    · have hd : decide ((j : Int) < (l.length : Int)) = false := by simp; omega
      obtain rfl : j = l.length := by omega
      have HA := Lib.hid (show l.all okW = true from by have := HS.out.ok; rwa [List.take_length] at this)
      by_cases hL : 1000 < l.length
      · have hd3 : decide ((1000 : Int) < (l.length : Int)) = true := by simp; omega
        have HR := Lib.hid (show sumV l = .tuple #[.int .i64 0, .bool false] by unfold sumV; rw [sumW_long hL]; rfl)
        clear hL
        go_wp2_with fail
        go_ret2
        exact ⟨by rw [HR.out]; rfl, HB.out⟩
      · have hd3 : decide ((1000 : Int) < (l.length : Int)) = false := by simp; omega
        have HR := Lib.hid (show sumV l = .tuple #[.int .i64 n, .bool true] by
          have e := HS.out.n
          rw [show min l.length 1000 = l.length by omega, List.take_length] at e
          unfold sumV
          rw [sumW_ok HA.out (by omega), e]
          rfl)
        clear hL
        go_wp2_with fail
        go_ret2
        exact ⟨by rw [HR.out]; rfl, HB.out⟩
end Go.Proofs.Ytpoejbfcioijhaa
