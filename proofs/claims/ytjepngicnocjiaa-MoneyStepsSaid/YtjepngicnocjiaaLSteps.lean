/- MoneySteps and MoneyRange: the statements' walks. -/
import Derived.Test.YtjepngicnocjiaaMonS
namespace Go.Proofs.Ytjepngicnocjiaa
open Go.RowKit
set_option maxHeartbeats 1000000 in
theorem steps_walk (a b c : Int) (w : World) (_ha : (Lit.int .i64 a).wf = true) (_hb : (Lit.int .i64 b).wf = true) (_hc : (Lit.int .i64 c).wf = true) :
    Calls Try.prog 8 #[.int .i64 a, .int .i64 b, .int .i64 c] w fun e w' => e = .returned (.bool true) ∧ Below w.heap.size w w' := by
  have hs : sumO 0 [a, b, c] = (addO a b).bind fun x => addO x c := by
    rw [show [a, b, c] = [a, b] ++ [c] from rfl, sumO_append, sum_pair]
    cases addO a b with
    | none => rfl
    | some x => show sumO x [c] = addO x c; simp only [sumO]; cases addO x c <;> rfl
  cases h1 : addO a b with
  | none =>
    have H1 := Lib.hid h1
    have HS := Lib.hid (hs.trans (by rw [h1]; rfl : _ = none))
    clear hs h1
    go_enter Try.func8, Try.ntmps8
    go_wp2_with fail
    refine (add_any a b _).mono ?_
    rintro e w1 ⟨rfl, b1⟩
    rw [H1.out]
    simp only [resO, valO, errO, Option.getD_none]
    go_wp2_with fail
    refine (add_any 0 c _).mono ?_
    rintro e w2 ⟨rfl, b2⟩
    have B2 := b1.trans (b2.mono b1.size)
    clear b1 b2
    obtain ⟨q1, q2, hq⟩ : ∃ q1 q2, resO (addO 0 c) = .tuple #[.int .i64 q1, .int .i64 q2] := ⟨_, _, rfl⟩
    rw [hq]
    clear hq
    go_wp2_with fail
    have B3 : Below w.heap.size w (w2.alloc (.cells #[.int .i64 a, .int .i64 b, .int .i64 c] 2)) := B2.alloc B2.size _
    refine (gsum_any [a, b, c] _ _ _ (w2.heap.size + 1) _ (reads_blk (t := 2) (Blk.new w2 _ _) (by omega) rfl) (by simp) (by simp [maxLen])).mono ?_
    rintro e w3 ⟨rfl, b3⟩
    have B4 := B3.trans (b3.mono B3.size)
    clear b3 B2 B3
    rw [HS.out]
    simp only [resO, valO, errO, Option.getD_none]
    go_wp2_with fail
    refine (shown_any _).mono ?_
    rintro e w4 ⟨rfl, b4⟩
    have B5 := B4.trans (b4.mono B4.size)
    clear b4 B4
    go_wp2
    go_ret
    exact ⟨rfl, B5⟩
  | some x =>
    have H1 := Lib.hid h1
    have HS := Lib.hid (hs.trans (by rw [h1]; rfl : _ = addO x c))
    clear hs h1
    obtain ⟨o, ho⟩ : ∃ o, addO x c = o := ⟨_, rfl⟩
    have HO := Lib.hid ho
    clear ho
    go_enter Try.func8, Try.ntmps8
    go_wp2_with fail
    refine (add_any a b _).mono ?_
    rintro e w1 ⟨rfl, b1⟩
    rw [H1.out]
    simp only [resO, valO, errO, Option.getD_some]
    go_wp2_with fail
    refine (add_any x c _).mono ?_
    rintro e w2 ⟨rfl, b2⟩
    have B2 := b1.trans (b2.mono b1.size)
    clear b1 b2
    rw [HO.out]
    obtain ⟨q1, q2, hq⟩ : ∃ q1 q2, resO o = .tuple #[.int .i64 q1, .int .i64 q2] := ⟨_, _, rfl⟩
    have HQ := Lib.hid hq
    rw [hq]
    clear hq
    go_wp2_with fail
    have B3 : Below w.heap.size w (w2.alloc (.cells #[.int .i64 a, .int .i64 b, .int .i64 c] 2)) := B2.alloc B2.size _
    refine (gsum_any [a, b, c] _ _ _ (w2.heap.size + 1) _ (reads_blk (t := 2) (Blk.new w2 _ _) (by omega) rfl) (by simp) (by simp [maxLen])).mono ?_
    rintro e w3 ⟨rfl, b3⟩
    have B4 := B3.trans (b3.mono B3.size)
    clear b3 B2 B3
    rw [HS.out, HO.out, HQ.out]
    go_wp2_with fail
    refine (shown_any _).mono ?_
    rintro e w4 ⟨rfl, b4⟩
    have B5 := B4.trans (b4.mono B4.size)
    clear b4 B4
    go_wp2
    go_ret
    exact ⟨rfl, B5⟩
end Go.Proofs.Ytjepngicnocjiaa
