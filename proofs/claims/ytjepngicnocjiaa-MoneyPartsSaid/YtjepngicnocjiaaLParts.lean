/- MoneyParts: the statement's walk. -/
import Derived.Test.YtjepngicnocjiaaMonS
import Derived.Test.YtjepngicnocjiaaRowArg
import Derived.Test.YtjepngicnocjiaaApp2
namespace Go.Proofs.Ytjepngicnocjiaa
open Go.RowKit
theorem mon_info : (Try.prog.info? 2).map (fun i => (i.zero, i.size, i.bytes)) = some (some (.int .i64 0), 1, 8) := by kernel_rfl
theorem ints_one (zs : List Int) : ∀ u ∈ ints zs, u.oneCell' = true := by
  intro u hu
  obtain ⟨z, _, rfl⟩ := List.mem_map.1 hu
  rfl
theorem ints_append (l m : List Int) : ints (l ++ m) = ints l ++ ints m := List.map_append
theorem resO_pr (o : Option Int) : ∃ p q, resO o = .tuple #[.int .i64 p, .int .i64 q] := ⟨_, _, rfl⟩
theorem sum_two (l m : List Int) : sumO 0 (l ++ m) = match sumO 0 l, sumO 0 m with
    | some x, some y => addO x y
    | _, _ => none := by
  rw [sumO_append]
  cases h1 : sumO 0 l with
  | none => rfl
  | some x =>
    have hx : mayB x = true := sumO_may _ _ _ (by decide) h1
    cases h2 : sumO 0 m with
    | none => exact sumO_bad m 0 x hx (by decide) (mayB_yes hx).1 h2
    | some y => exact sumO_from hx h2
set_option maxHeartbeats 2000000 in
theorem parts_walk (A1 : Option Addr) (n1 c1 : Nat) (z1 : List Int) (A2 : Option Addr) (n2 c2 : Nat) (z2 : List Int) (w : World) (h1 : InRow .i64 w A1 n1 z1) (h2 : InRow .i64 w A2 n2 z2) :
    Calls Try.prog 6 #[.slice A1 n1 c1, .slice A2 n2 c2] w fun e w' => e = .returned (.bool true) ∧ Below w.heap.size w w' := by
  obtain ⟨m1, _, r1, _⟩ := h1
  obtain ⟨m2, _, r2, _⟩ := h2
  have R1 := Lib.hid (show Reads w w.heap.size 1 A1 n1 (ints z1) from r1)
  have R2 := Lib.hid (show Reads w w.heap.size 1 A2 n2 (ints z2) from r2)
  have M1 := Lib.hid m1
  have M2 := Lib.hid m2
  unfold maxLen at m1 m2
  clear r1 r2
  by_cases hl : 1024 < n1
  · go_enter Try.func6, Try.ntmps6
    go_wp2_with fail
    refine (shown_any _).mono ?_
    rintro e w1 ⟨rfl, b1⟩
    go_wp2
    go_ret
    exact ⟨rfl, b1⟩
  by_cases hm : 1024 < n2
  · go_enter Try.func6, Try.ntmps6
    go_wp2_with fail
    refine (shown_any _).mono ?_
    rintro e w1 ⟨rfl, b1⟩
    go_wp2
    go_ret
    exact ⟨rfl, b1⟩
  go_enter Try.func6, Try.ntmps6
  go_wp2_with fail
  refine (shown_any _).mono ?_
  rintro e w1 ⟨rfl, B1⟩
  have O1 : (w1.alloc (.cells #[] 2)).ownsRow w.heap.size 2 1 (.slice (some ⟨w1.heap.size, 0, none⟩) 0 0) 0 (#[] : Array Value).toList := World.ownsRow_lit w1 #[] 0 B1.size (by unfold maxLen; omega) (by simp)
  have B2 : Below w.heap.size w (w1.alloc (.cells #[] 2)) := B1.alloc B1.size _
  go_wp2_with (first
    | (refine wpList_append_row rfl (.tmp 28) (.tmp 29) 22 rfl w.heap.size 2 _ 8 Try.underlying22 mon_info rfl (by omega) _ _ _ rfl O1 w.heap.size A1 n1 c1 (ints z1) rfl (R1.out.below B2) (ints_one z1) (by omega) B2.size ?_; intro v2 w2 o2 g2 _)
    | (refine wpList_append_row rfl (.tmp 31) (.tmp 32) 22 rfl w.heap.size 2 _ 8 Try.underlying22 mon_info rfl (by omega) _ _ _ rfl o2 w.heap.size A2 n2 c2 (ints z2) rfl (R2.out.below (B2.trans (grown_below g2 O1 B2.size))) (ints_one z2) (by omega) (B2.trans (grown_below g2 O1 B2.size)).size ?_; intro v3 w3 o3 g3 _; have B3 : Below w.heap.size w w3 := (B2.trans (grown_below g2 O1 B2.size)).trans (grown_below g3 o2 (B2.trans (grown_below g2 O1 B2.size)).size); obtain ⟨A3, c3, rfl⟩ := own_shape o3))
  have R3 := Lib.hid (show Reads w3 w3.heap.size 1 A3 (n1 + n2) (ints (z1 ++ z2)) by rw [ints_append]; have h := Reads.of_own o3; simp only [Nat.zero_add, List.nil_append] at h; exact h)
  clear o3 g3 o2 g2 O1 B2 B1
  refine (gsum_any z1 A1 n1 c1 w.heap.size _ (R1.out.below B3) B3.size M1.out).mono ?_
  rintro e w4 ⟨rfl, b4⟩
  replace R3 := Lib.hid ((R3.out.below b4).more b4.size)
  have B4 := B3.trans (b4.mono B3.size)
  clear b4 B3
  have HS := Lib.hid (sum_two z1 z2)
  obtain ⟨o12, h12⟩ : ∃ o, sumO 0 (z1 ++ z2) = o := ⟨_, rfl⟩
  have H12 := Lib.hid h12
  clear h12
  cases s1 : sumO 0 z1 with
  | none =>
    have S1 := Lib.hid s1
    clear s1
    have H := Lib.hid (show o12 = none by rw [← H12.out, HS.out, S1.out])
    simp only [resO, valO, errO, Option.getD_none]
    go_wp2_with fail
    refine (gsum_any z2 A2 n2 c2 w.heap.size _ (R2.out.below B4) B4.size M2.out).mono ?_
    rintro e w5 ⟨rfl, b5⟩
    replace R3 := Lib.hid ((R3.out.below b5).more b5.size)
    have B5 := B4.trans (b5.mono B4.size)
    clear b5 B4
    obtain ⟨p, q, hpq⟩ := resO_pr (sumO 0 z2)
    rw [hpq]
    clear hpq
    go_wp2_with fail
    refine (gsum_any (z1 ++ z2) A3 (n1 + n2) c3 _ _ R3.out (Nat.le_refl _) (by unfold maxLen; omega)).mono ?_
    rintro e w6 ⟨rfl, b6⟩
    have B6 := B5.trans (b6.mono B5.size)
    clear b6 B5
    rw [H12.out, H.out]
    simp only [resO, valO, errO, Option.getD_none]
    go_wp2
    go_ret
    exact ⟨rfl, B6⟩
  | some x =>
    have S1 := Lib.hid s1
    clear s1
    simp only [resO, valO, errO, Option.getD_some]
    go_wp2_with fail
    refine (gsum_any z2 A2 n2 c2 w.heap.size _ (R2.out.below B4) B4.size M2.out).mono ?_
    rintro e w5 ⟨rfl, b5⟩
    replace R3 := Lib.hid ((R3.out.below b5).more b5.size)
    have B5 := B4.trans (b5.mono B4.size)
    clear b5 B4
    cases s2 : sumO 0 z2 with
    | none =>
      have H := Lib.hid (show o12 = none by rw [← H12.out, HS.out, S1.out, s2])
      clear s2
      simp only [resO, valO, errO, Option.getD_none]
      go_wp2_with fail
      refine (gsum_any (z1 ++ z2) A3 (n1 + n2) c3 _ _ R3.out (Nat.le_refl _) (by unfold maxLen; omega)).mono ?_
      rintro e w6 ⟨rfl, b6⟩
      have B6 := B5.trans (b6.mono B5.size)
      clear b6 B5
      rw [H12.out, H.out]
      simp only [resO, valO, errO, Option.getD_none]
      go_wp2
      go_ret
      exact ⟨rfl, B6⟩
    | some y =>
      have H := Lib.hid (show o12 = addO x y by rw [← H12.out, HS.out, S1.out, s2])
      clear s2
      simp only [resO, valO, errO, Option.getD_some]
      go_wp2_with fail
      refine (gsum_any (z1 ++ z2) A3 (n1 + n2) c3 _ _ R3.out (Nat.le_refl _) (by unfold maxLen; omega)).mono ?_
      rintro e w6 ⟨rfl, b6⟩
      have B6 := B5.trans (b6.mono B5.size)
      clear b6 B5
      obtain ⟨p, q, hpq⟩ := resO_pr (addO x y)
      have HPQ := Lib.hid hpq
      rw [H12.out, H.out, hpq]
      clear hpq
      go_wp2_with fail
      refine (add_any x y _).mono ?_
      rintro e w7 ⟨rfl, b7⟩
      have B7 := B6.trans (b7.mono B6.size)
      rw [HPQ.out]
      clear b7 B6
      go_wp2
      go_ret
      exact ⟨rfl, B7⟩
end Go.Proofs.Ytjepngicnocjiaa
