/- Costs: the document's Pick. -/
import Derived.Test.YtpoejbfcioijhaaCosA
namespace Go.Proofs.Ytpoejbfcioijhaa
open Go.RowKit
/-- at which place so much is used up -/
def pickN : Int → List (IntV .i64) → Nat
  | _, [] => 0
  | n, z :: l => if n < z.1 then 0 else pickN (n - z.1) l + 1
def pickW (l : List (IntV .i64)) (d : Int) : Option Nat := match sumW l with
  | some s => if s = 0 then none else some (pickN (d.tmod s) l)
  | none => none
/-- what Pick answers -/
def pickV (l : List (IntV .i64)) (d : Int) : Value := .tuple #[.int .i64 (((pickW l d).getD 0 : Nat) : Int), .bool (pickW l d).isSome]
structure PickS (l : List (IntV .i64)) (n0 : Int) (j : Nat) (n : Int) : Prop where
  lo : 0 ≤ n
  hi : n < sumI (l.drop j)
  eq : pickN n0 l = j + pickN n (l.drop j)
  top : n ≤ n0
theorem PickS.lt {l : List (IntV .i64)} {n0 n : Int} {j : Nat} (h : PickS l n0 j n) : j < l.length := by
  refine Nat.lt_of_not_le fun hj => ?_
  have h1 := h.hi
  rw [List.drop_eq_nil_of_le hj] at h1
  have := h.lo
  simp only [sumI] at h1
  omega
theorem PickS.start {l : List (IntV .i64)} {n : Int} (h0 : 0 ≤ n) (h1 : n < sumI l) : PickS l n 0 n := ⟨h0, by rw [List.drop_zero]; exact h1, by rw [List.drop_zero, Nat.zero_add], Int.le_refl _⟩
theorem PickS.here {l : List (IntV .i64)} {n0 n : Int} {j : Nat} (h : PickS l n0 j n) (hx : n < (l[j]'h.lt).1) : pickN n0 l = j := by
  rw [h.eq, List.drop_eq_getElem_cons h.lt, pickN, if_pos hx, Nat.add_zero]
theorem PickS.next {l : List (IntV .i64)} {n0 n : Int} {j : Nat} (h : PickS l n0 j n) (hx : ¬ n < (l[j]'h.lt).1) (hx0 : 0 ≤ (l[j]'h.lt).1) : PickS l n0 (j + 1) (n - (l[j]'h.lt).1) := by
  have h1 := h.hi
  rw [List.drop_eq_getElem_cons h.lt, sumI] at h1
  refine ⟨by omega, by omega, ?_, by have := h.top; omega⟩
  rw [h.eq, List.drop_eq_getElem_cons h.lt, pickN, if_neg hx]
  omega
theorem sumW_some {l : List (IntV .i64)} {s : Int} (h : sumW l = some s) : l.all okW = true ∧ l.length ≤ 1000 ∧ s = sumI l := by
  unfold sumW at h
  split at h
  · rename_i h'
    simp only [Bool.and_eq_true, decide_eq_true_eq] at h'
    exact ⟨h'.1, h'.2, (Option.some.inj h).symm⟩
  · cases h
theorem wf_u64r (z : IntV .u64) : 0 ≤ z.1 ∧ z.1 < 18446744073709551616 := by
  have := z.2
  simp [Lit.wf, IntKind.min, IntKind.max, IntKind.signed, IntKind.bits] at this
  omega
section
set_option maxRecDepth 20000 in
theorem rPick_w (A : Option Addr) (c : Nat) (l : List (IntV .i64)) (d : IntV .u64) (w : World) (h : RowIn (enc1 .i64) 1 w w.heap.size A c l) (hn : l.length ≤ 1000000) :
    Calls Try.prog 13 #[.slice A l.length c, .int .u64 d.1] w fun e w' => e = .returned (pickV l d.1) ∧ Below w.heap.size w w' := by
  have IN := Lib.hid h
  have SU := Lib.hid (rSum_w A c l w h hn)
  clear h
  cases hS : sumW l with
  | none =>
    have HV := Lib.hid (show sumV l = .tuple #[.int .i64 0, .bool false] by unfold sumV; rw [hS]; rfl)
    have HR := Lib.hid (show pickV l d.1 = .tuple #[.int .i64 0, .bool false] by unfold pickV pickW; rw [hS]; rfl)
    clear hS
    go_enter Try.func13, Try.ntmps13
    go_wp2_with fail
    refine SU.out.mono ?_
    rintro e w1 ⟨rfl, b1⟩
    rw [HV.out]
    have HB := Lib.hid b1
    clear b1
    go_wp2_with fail
    go_ret2
    exact ⟨by rw [HR.out]; rfl, HB.out⟩
  | some s =>
    obtain ⟨hok, hl, hs⟩ := sumW_some hS
    have HV := Lib.hid (show sumV l = .tuple #[.int .i64 s, .bool true] by unfold sumV; rw [hS]; rfl)
    have hr := sumI_rng l hok
    rw [← hs] at hr
    have HSR := Lib.hid (show 0 ≤ s ∧ s ≤ 1099511627776000 by omega)
    by_cases h0 : s = 0
    · have HR := Lib.hid (show pickV l d.1 = .tuple #[.int .i64 0, .bool false] by unfold pickV pickW; rw [hS]; simp [h0])
      subst h0
      clear hS hs hr hok
      go_enter Try.func13, Try.ntmps13
      go_wp2_with fail
      refine SU.out.mono ?_
      rintro e w1 ⟨rfl, b1⟩
      rw [HV.out]
      have HB := Lib.hid b1
      clear b1
      go_wp2_with fail
      go_ret2
      exact ⟨by rw [HR.out]; rfl, HB.out⟩
    · obtain ⟨p, hp⟩ : ∃ p, pickN (d.1.tmod s) l = p := ⟨_, rfl⟩
      have HR := Lib.hid (show pickV l d.1 = .tuple #[.int .i64 (p : Int), .bool true] by unfold pickV pickW; rw [hS]; simp only [h0, if_false, hp]; rfl)
      obtain ⟨r, hr0⟩ : ∃ r : Int, d.1.tmod s = r := ⟨_, rfl⟩
      have hd0 := wf_u64r d
      have hr1 : 0 ≤ r := hr0 ▸ Int.tmod_nonneg s hd0.1
      have hr2 : r < s := hr0 ▸ Int.tmod_lt_of_pos d.1 (by omega)
      rw [hr0] at hp
      have HP := Lib.hid hp
      have HS := Lib.hid (show PickS l r 0 r from PickS.start hr1 (hs ▸ hr2))
      have hz : (s == 0) = false := beq_eq_false_iff_ne.mpr h0
      have hu1 : s % 18446744073709551616 = s := by omega
      have hu2 : IntKind.u64.wrap s = s := by rw [show IntKind.u64.wrap s = s % 18446744073709551616 from rfl]; exact hu1
      have hu3 : IntKind.i64.wrap r = r := by rw [IntKind.wrap_i64]; omega
      have HLN := Lib.hid hl
      have HDD := Lib.hid hr2
      have HOK := Lib.hid hok
      clear hS hs hr hok hp hl hn hr1 hr2 hd0
      go_enter Try.func13, Try.ntmps13
      go_wp2_with fail
      refine SU.out.mono ?_
      rintro e w1 ⟨rfl, b1⟩
      rw [HV.out]
      have HB := Lib.hid b1
      clear b1 SU
      go_wp2_with fail
      go_loopw [8, 9] (fun sn sa wr => ∃ (j : Nat) (n : Int), sn = .int .i64 n ∧ sa = .int .i64 j ∧ Hid (PickS l r j n) ∧ Hid (Below w.heap.size w wr)) (fun _ sa _ => l.length - (intOf sa).toNat)
      case atStart => exact ⟨0, r, rfl, rfl, HS, HB⟩
      case round =>
        clear HS HB
        obtain ⟨j, n, rfl, rfl, HS, HB⟩ := hrel
        have HLT := Lib.hid HS.out.lt
        have hi0 : (0 : Int) ≤ (j : Int) := by omega
        have hi1 : (j : Int) < (l.length : Int) := by have := HLT.out; omega
        obtain ⟨g, o, hA, hg, hc⟩ := (IN.out.below HB.out).at (enc1_len _) HLT.out
        obtain ⟨x, hx⟩ : ∃ x, l[j]'HLT.out = x := ⟨_, rfl⟩
        have HXX := Lib.hid hx
        have HX1 := Lib.hid (okW_rng (List.all_eq_true.1 HOK.out x (hx ▸ List.getElem_mem HLT.out)))
        rw [hx] at hc
        have k1 : wr.cell? ⟨g, o + j, none⟩ = some (.int .i64 x.1) := by have := hc.head; simpa using this
        subst hA
        clear hc hx hg
        by_cases hq : n < x.1
        · have hd : decide (x.1 ≤ n) = false := decide_eq_false (by omega)
          have HE := Lib.hid (show p = j from by rw [← HP.out]; exact HS.out.here (by rw [HXX.out]; exact hq))
          clear hq
          go_wp2_with fail
          go_ret2
          exact ⟨by rw [HR.out, HE.out]; rfl, HB.out⟩
        · have hd : decide (x.1 ≤ n) = true := decide_eq_true (by omega)
          have HS2 := Lib.hid (show PickS l r (j + 1) (n - x.1) from by have := HS.out.next (by rw [HXX.out]; exact hq) (by rw [HXX.out]; have := HX1.out; omega); rwa [HXX.out] at this)
          have hw : IntKind.i64.wrap (n - x.1) = n - x.1 := by
            have h1 := HS.out.lo
            have h2 := wf_i64.1 x.2
            have h3 := HS2.out.top
            have h4 := HX1.out
            have h5 := HDD.out
            have h6 := HSR.out
            have h7 := HS2.out.lo
            rw [IntKind.wrap_i64]; omega
          clear hq
          have hj9 : (j : Int) ≤ 1000 := by have := HLT.out; have := HLN.out; omega
          go_wp2_with fail
          go_roundw
          case rel => exact ⟨j + 1, n - x.1, by first | rfl | go_num, by go_num, HS2, HB⟩
          case measure => have := HLT.out; simp [intOf]; omega
end
end Go.Proofs.Ytpoejbfcioijhaa
