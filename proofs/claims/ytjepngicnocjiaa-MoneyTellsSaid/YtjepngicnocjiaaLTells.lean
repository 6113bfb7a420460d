/- MoneyTells: the statement's walk. -/
import Derived.Test.YtjepngicnocjiaaMonS
import Derived.Test.YtjepngicnocjiaaRowArg
namespace Go.Proofs.Ytjepngicnocjiaa
open Go.RowKit
theorem wf_i64 {a : Int} (h : (Lit.int .i64 a).wf = true) : -9223372036854775808 ≤ a ∧ a ≤ 9223372036854775807 := by
  simp [Lit.wf, IntKind.min, IntKind.max, IntKind.signed, IntKind.bits] at h; omega
theorem resO_pair (o : Option Int) : ∃ p q, resO o = .tuple #[.int .i64 p, .int .i64 q] := ⟨_, _, rfl⟩
set_option maxHeartbeats 2000000 in
theorem tells_walk (a b : Int) (A1 : Option Addr) (n1 c1 : Nat) (z1 : List Int) (A2 : Option Addr) (n2 c2 : Nat) (z2 : List Int) (w : World) (ha : (Lit.int .i64 a).wf = true) (_hb : (Lit.int .i64 b).wf = true) (h1 : InRow .i64 w A1 n1 z1) (h2 : InRow .i64 w A2 n2 z2) :
    Calls Try.prog 3 #[.int .i64 a, .int .i64 b, .slice A1 n1 c1, .slice A2 n2 c2] w fun e w' => e = .returned (.bool true) ∧ Below w.heap.size w w' := by
  have hba := wf_i64 ha
  obtain ⟨m1, _, r1, _⟩ := h1
  obtain ⟨m2, _, r2, _⟩ := h2
  have R1 := Lib.hid (show Reads w w.heap.size 1 A1 n1 (ints z1) from r1)
  have R2 := Lib.hid (show Reads w w.heap.size 1 A2 n2 (ints z2) from r2)
  have M1 := Lib.hid m1
  have M2 := Lib.hid m2
  unfold maxLen at m1 m2
  have HBA := Lib.hid hba
  clear r1 r2 hba ha
  by_cases hl : 1024 < n1
  · go_enter Try.func3, Try.ntmps3
    go_wp2_with fail
    refine (shown_any _).mono ?_
    rintro e w1 ⟨rfl, b1⟩
    go_wp2
    go_ret
    exact ⟨rfl, b1⟩
  by_cases hm : 1024 < n2
  · go_enter Try.func3, Try.ntmps3
    go_wp2_with fail
    refine (shown_any _).mono ?_
    rintro e w1 ⟨rfl, b1⟩
    go_wp2
    go_ret
    exact ⟨rfl, b1⟩
  obtain ⟨p1, q1, e1⟩ := resO_pair (addO a b)
  obtain ⟨p2, q2, e2⟩ := resO_pair (subO a b)
  obtain ⟨p3, q3, e3⟩ := resO_pair (sumO 0 z1)
  obtain ⟨p4, q4, e4⟩ := resO_pair (feeO z1 z2 a)
  have E1 := Lib.hid e1
  have E2 := Lib.hid e2
  have E3 := Lib.hid e3
  have E4 := Lib.hid e4
  clear e1 e2 e3 e4
  go_enter Try.func3, Try.ntmps3
  go_wp2_with fail
  refine (shown_any _).mono ?_
  rintro e w1 ⟨rfl, B1⟩
  go_wp2_with fail
  refine (add_any a b _).mono ?_
  rintro e w2 ⟨rfl, b2⟩
  have B2 := B1.trans (b2.mono B1.size)
  clear b2 B1
  rw [E1.out]
  go_wp2_with fail
  refine (radd_any a b _).mono ?_
  rintro e w' ⟨rfl, rfl⟩
  rw [E1.out]
  go_wp2_with fail
  refine (sub_any a b _).mono ?_
  rintro e w3 ⟨rfl, b3⟩
  have B3 := B2.trans (b3.mono B2.size)
  clear b3 B2
  rw [E2.out]
  go_wp2_with fail
  refine (rsub_any a b _).mono ?_
  rintro e w' ⟨rfl, rfl⟩
  rw [E2.out]
  go_wp2_with fail
  refine (gsum_any z1 A1 n1 c1 w.heap.size _ (R1.out.below B3) B3.size M1.out).mono ?_
  rintro e w4 ⟨rfl, b4⟩
  have B4 := B3.trans (b4.mono B3.size)
  clear b4 B3
  rw [E3.out]
  go_wp2_with fail
  refine (rsum_any z1 A1 n1 c1 w.heap.size _ (R1.out.below B4) M1.out).mono ?_
  rintro e w' ⟨rfl, rfl⟩
  rw [E3.out]
  go_wp2_with fail
  refine (fee_any z1 z2 A1 A2 n1 c1 n2 c2 w.heap.size a _ (R1.out.below B4) (R2.out.below B4) B4.size M1.out M2.out HBA.out).mono ?_
  rintro e w5 ⟨rfl, b5⟩
  have B5 := B4.trans (b5.mono B4.size)
  clear b5 B4
  rw [E4.out]
  go_wp2_with fail
  refine (rfee_any z1 z2 A1 A2 n1 c1 n2 c2 w.heap.size a _ (R1.out.below B5) (R2.out.below B5) M1.out M2.out).mono ?_
  rintro e w' ⟨rfl, rfl⟩
  rw [E4.out]
  go_wp2_with fail
  cases hmay : mayB a with
  | true =>
    refine (may_yes a hmay _).mono ?_
    have HM := Lib.hid hmay
    clear hmay
    rintro e w' ⟨rfl, rfl⟩
    go_wp2_with fail
    refine (rmay_yes a HM.out _).mono ?_
    rintro e w' ⟨rfl, rfl⟩
    go_wp2
    go_ret
    exact ⟨rfl, B5⟩
  | false =>
    refine (may_no a hmay _).mono ?_
    have HM := Lib.hid hmay
    clear hmay
    rintro e w' ⟨rfl, rfl⟩
    go_wp2_with fail
    refine (rmay_no a HM.out _).mono ?_
    rintro e w' ⟨rfl, rfl⟩
    go_wp2
    go_ret
    exact ⟨rfl, B5⟩
end Go.Proofs.Ytjepngicnocjiaa
