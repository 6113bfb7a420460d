/- The reference's Fee; shown. -/
import Derived.Test.YtjepngicnocjiaaMonR
import Derived.Test.YtjepngicnocjiaaMonD
namespace Go.Proofs.Ytjepngicnocjiaa
open Go.RowKit
set_option maxHeartbeats 1000000 in
theorem rfee_any (za zb : List Int) (A1 A2 : Option Addr) (n1 c1 n2 c2 B : Nat) (bal : Int) (w : World) (h1 : Reads w B 1 A1 n1 (ints za)) (h2 : Reads w B 1 A2 n2 (ints zb)) (m1 : n1 ≤ maxLen) (m2 : n2 ≤ maxLen) :
    Calls Try.prog 17 #[.slice A1 n1 c1, .slice A2 n2 c2, .int .i64 bal] w fun e w' => e = .returned (resO (feeO za zb bal)) ∧ w = w' := by
  have H1 := Lib.hid h1
  have H2 := Lib.hid h2
  clear h1 h2
  obtain ⟨o, ho⟩ : ∃ o, feeO za zb bal = o := ⟨_, rfl⟩
  rw [ho]
  have HO := Lib.hid ho
  clear ho
  cases s1 : sumO 0 za with
  | none =>
    have S1 := Lib.hid s1
    clear s1
    go_enter Try.func17, Try.ntmps17
    go_wp2_with fail
    refine (rsum_any za A1 n1 c1 B _ H1.out m1).mono ?_
    rintro e w' ⟨rfl, rfl⟩
    rw [S1.out]
    simp only [resO, valO, errO, Option.getD_none]
    go_wp2_with fail
    refine (rsum_any zb A2 n2 c2 B _ H2.out m2).mono ?_
    rintro e w' ⟨rfl, rfl⟩
    generalize sumO 0 zb = q
    simp only [resO]
    go_wp2
    go_ret2
    exact ⟨by rw [← HO.out, feeO_none za zb bal (.inl S1.out)]; rfl, rfl⟩
  | some x =>
    cases s2 : sumO 0 zb with
    | none =>
      have S1 := Lib.hid s1
      have S2 := Lib.hid s2
      clear s1 s2
      go_enter Try.func17, Try.ntmps17
      go_wp2_with fail
      refine (rsum_any za A1 n1 c1 B _ H1.out m1).mono ?_
      rintro e w' ⟨rfl, rfl⟩
      rw [S1.out]
      simp only [resO, valO, errO, Option.getD_some]
      go_wp2_with fail
      refine (rsum_any zb A2 n2 c2 B _ H2.out m2).mono ?_
      rintro e w' ⟨rfl, rfl⟩
      rw [S2.out]
      simp only [resO, valO, errO, Option.getD_none]
      go_wp2
      go_ret2
      exact ⟨by rw [← HO.out, feeO_none za zb bal (.inr S2.out)]; rfl, rfl⟩
    | some y =>
      have S1 := Lib.hid s1
      have S2 := Lib.hid s2
      by_cases hlo : bal < -2100000000000000
      · have he : feeO za zb bal = none := by
          rw [feeO_lt za zb x y bal s1 s2 (by omega)]
          have : mayB (-bal) = false := mayB_mk_no (.inr (by omega))
          simp [addO, this]
        have HE := Lib.hid (HO.out.symm.trans he)
        clear s1 s2 he
        go_enter Try.func17, Try.ntmps17
        go_wp2_with fail
        refine (rsum_any za A1 n1 c1 B _ H1.out m1).mono ?_
        rintro e w' ⟨rfl, rfl⟩
        rw [S1.out]
        simp only [resO, valO, errO, Option.getD_some]
        go_wp2_with fail
        refine (rsum_any zb A2 n2 c2 B _ H2.out m2).mono ?_
        rintro e w' ⟨rfl, rfl⟩
        rw [S2.out]
        simp only [resO, valO, errO, Option.getD_some]
        go_wp2
        go_ret2
        exact ⟨by rw [HE.out]; rfl, rfl⟩
      by_cases hhi : 2100000000000000 < bal
      · have he : feeO za zb bal = none := by
          rw [feeO_ge za zb x y bal s1 s2 (by omega)]
          have : mayB bal = false := mayB_mk_no (.inr (by omega))
          simp [addO, this]
        have HE := Lib.hid (HO.out.symm.trans he)
        have hd : decide (bal < -2100000000000000) = false := by simp; omega
        clear s1 s2 he hlo
        go_enter Try.func17, Try.ntmps17
        go_wp2_with fail
        refine (rsum_any za A1 n1 c1 B _ H1.out m1).mono ?_
        rintro e w' ⟨rfl, rfl⟩
        rw [S1.out]
        simp only [resO, valO, errO, Option.getD_some]
        go_wp2_with fail
        refine (rsum_any zb A2 n2 c2 B _ H2.out m2).mono ?_
        rintro e w' ⟨rfl, rfl⟩
        rw [S2.out]
        simp only [resO, valO, errO, Option.getD_some]
        go_wp2
        go_ret2
        exact ⟨by rw [HE.out]; rfl, rfl⟩
      have hd : decide (bal < -2100000000000000) = false := by simp; omega
      have hd2 : decide (2100000000000000 < bal) = false := by simp; omega
      by_cases hge : 0 ≤ bal
      · have HE := Lib.hid ((feeO_ge za zb x y bal s1 s2 hge).symm.trans HO.out)
        clear s1 s2 hlo hhi
        go_enter Try.func17, Try.ntmps17
        go_wp2_with fail
        refine (rsum_any za A1 n1 c1 B _ H1.out m1).mono ?_
        rintro e w' ⟨rfl, rfl⟩
        rw [S1.out]
        simp only [resO, valO, errO, Option.getD_some]
        go_wp2_with fail
        refine (rsum_any zb A2 n2 c2 B _ H2.out m2).mono ?_
        rintro e w' ⟨rfl, rfl⟩
        rw [S2.out]
        simp only [resO, valO, errO, Option.getD_some]
        go_wp2_with fail
        refine (radd_any x bal _).mono ?_
        rintro e w' ⟨rfl, rfl⟩
        cases h3 : addO x bal with
        | none =>
          have H3 := Lib.hid h3
          clear h3
          simp only [resO, valO, errO, Option.getD_none]
          go_wp2
          go_ret2
          exact ⟨by rw [← HE.out, H3.out]; rfl, rfl⟩
        | some s =>
          have H3 := Lib.hid h3
          clear h3
          simp only [resO, valO, errO, Option.getD_some]
          go_wp2_with fail
          refine (rsub_any s y _).mono ?_
          rintro e w' ⟨rfl, rfl⟩
          obtain ⟨q, hq⟩ : ∃ q, subO s y = q := ⟨_, rfl⟩
          rw [hq]
          have HQ := Lib.hid hq
          clear hq
          simp only [resO]
          go_wp2
          go_ret2
          exact ⟨by rw [← HE.out, H3.out]; simp [HQ.out, resO], rfl⟩
      · have HE := Lib.hid ((feeO_lt za zb x y bal s1 s2 hge).symm.trans HO.out)
        have hlt : bal < 0 := by omega
        have hlo' : -2100000000000000 ≤ bal := by omega
        clear s1 s2 hlo hhi hge
        go_enter Try.func17, Try.ntmps17
        go_wp2_with fail
        refine (rsum_any za A1 n1 c1 B _ H1.out m1).mono ?_
        rintro e w' ⟨rfl, rfl⟩
        rw [S1.out]
        simp only [resO, valO, errO, Option.getD_some]
        go_wp2_with fail
        refine (rsum_any zb A2 n2 c2 B _ H2.out m2).mono ?_
        rintro e w' ⟨rfl, rfl⟩
        rw [S2.out]
        simp only [resO, valO, errO, Option.getD_some]
        go_wp2_with fail
        refine (radd_any y (-bal) _).mono ?_
        rintro e w' ⟨rfl, rfl⟩
        cases h3 : addO y (-bal) with
        | none =>
          have H3 := Lib.hid h3
          clear h3
          simp only [resO, valO, errO, Option.getD_none]
          go_wp2
          go_ret2
          exact ⟨by rw [← HE.out, H3.out]; rfl, rfl⟩
        | some s =>
          have H3 := Lib.hid h3
          clear h3
          simp only [resO, valO, errO, Option.getD_some]
          go_wp2_with fail
          refine (rsub_any x s _).mono ?_
          rintro e w' ⟨rfl, rfl⟩
          obtain ⟨q, hq⟩ : ∃ q, subO x s = q := ⟨_, rfl⟩
          rw [hq]
          have HQ := Lib.hid hq
          clear hq
          simp only [resO]
          go_wp2
          go_ret2
          exact ⟨by rw [← HE.out, H3.out]; simp [HQ.out, resO], rfl⟩
theorem shown_any (w : World) : Calls Try.prog 9 #[] w fun e w' => e = .returned (.bool true) ∧ Below w.heap.size w w' := by
  go_enter Try.func9, Try.ntmps9
  go_wp2_with fail
  refine (add_any 3 4 _).mono ?_
  rintro e w1 ⟨rfl, b1⟩
  rw [show addO 3 4 = some 7 by decide]
  simp only [resO, valO, errO, Option.getD_some]
  go_wp2_with fail
  refine (sub_any 3 5 _).mono ?_
  rintro e w2 ⟨rfl, b2⟩
  rw [show subO 3 5 = none by decide]
  simp only [resO, valO, errO, Option.getD_none]
  go_wp2
  go_ret
  exact ⟨rfl, b1.trans (b2.mono b1.size)⟩
end Go.Proofs.Ytjepngicnocjiaa
