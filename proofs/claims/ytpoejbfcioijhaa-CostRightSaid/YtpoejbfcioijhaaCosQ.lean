/- Costs: the project's Sum and Pick. -/
import Derived.Test.YtpoejbfcioijhaaCosP
import Derived.Test.YtpoejbfcioijhaaLCos
import Derived.Test.YtpoejbfcioijhaaFeeB
namespace Go.Proofs.Ytpoejbfcioijhaa
open Go.RowKit Go.Shelf
attribute [local go_sem] Oper.semAt_some
/-- the sum at the last place that came -/
def lastE (l : List (IntV .i64)) (pre : List (Fin l.length)) : Int := match pre.getLast? with
  | none => 0
  | some x => sumI (l.take (x.1 + 1))
theorem lastE_snoc (l : List (IntV .i64)) (pre : List (Fin l.length)) (x : Fin l.length) : lastE l (pre ++ [x]) = sumI (l.take (x.1 + 1)) := by
  unfold lastE
  rw [List.getLast?_concat]
theorem lastE_all (l : List (IntV .i64)) : lastE l (List.finRange l.length) = sumI l := by
  unfold lastE
  by_cases hz : l.length = 0
  · have : List.finRange l.length = [] := List.eq_nil_of_length_eq_zero (by rw [List.length_finRange]; exact hz)
    rw [this]
    have h2 : l = [] := List.eq_nil_of_length_eq_zero hz
    rw [h2]
    rfl
  · have h1 : (List.finRange l.length).getLast? = some ⟨l.length - 1, by omega⟩ := by
      rw [List.getLast?_eq_getElem?, List.length_finRange, List.getElem?_eq_getElem (by rw [List.length_finRange]; omega)]
      simp
    rw [h1]
    show sumI (l.take (l.length - 1 + 1)) = sumI l
    rw [show l.length - 1 + 1 = l.length by omega, List.take_length]
set_option maxRecDepth 100000 in
set_option maxHeartbeats 4000000 in
theorem pSum_c : SumOk := fun A c l w h hl => by
  have IN := Lib.hid h
  have MY := Lib.hid (pMay A c l w h (by omega))
  cases hM : mayB l with
  | false =>
    have HR := Lib.hid (show sumV l = .tuple #[.int .i64 0, .bool false] by unfold sumV; rw [sumW_may, hM]; rfl)
    rw [hM] at MY
    clear h
    go_enter Try.func10, Try.ntmps10
    go_wp2_with fail
    refine MY.out.mono ?_
    rintro e w1 ⟨rfl, b1⟩
    have HB := Lib.hid b1
    clear b1
    go_wp2_with fail
    go_ret2
    exact ⟨by rw [HR.out]; rfl, HB.out⟩
  | true =>
    have HR := Lib.hid (show sumV l = .tuple #[.int .i64 (sumI l), .bool true] by unfold sumV; rw [sumW_may, hM]; rfl)
    rw [hM] at MY
    have HM := Lib.hid hM
    clear h hM
    refine (callsIn_wide (n := 9)).1 ?_
    refine callsIn_of_wp_marks Try.func10 rfl trivial ?_ rfl
    refine wpIn_wide.2 ?_
    simp only [Try.ntmps10, List.size_toArray, List.length_cons, List.length_nil, Nat.reduceAdd, Nat.reduceSub, Array.replicate_succ, Array.replicate_zero, List.push_toArray, List.append_toArray, List.nil_append, List.cons_append]
    go_wp2_with fail
    refine MY.out.mono ?_
    rintro e w1 ⟨rfl, b1⟩
    have HB1 := Lib.hid b1
    clear b1 MY
    go_wp2_with fail
    refine (callsIn_wide.1 (sums_in Fence.wide 9 trivial rfl A l.length c _)).mono ?_
    rintro e w2 ⟨rfl, rfl⟩
    go_wp2_with fail
    rw [← wpIn_wide (n := 9)]
    have bN := (Boxed.new w1 2 (.int .i64 0)).alloc (.cells #[.slice A l.length c] 30)
    have bA := Blk.new (w1.alloc (.cells #[.int .i64 0] 2)) 30 #[.slice A l.length c]
    simp only [World.size_alloc] at bN bA
    have hB0 : Below w.heap.size w ((w1.alloc (.cells #[.int .i64 0] 2)).alloc (.cells #[.slice A l.length c] 30)) := (HB1.out.alloc HB1.out.size _).alloc (by have := HB1.out.size; simp; omega) _
    have hsz : ((w1.alloc (.cells #[.int .i64 0] 2)).alloc (.cells #[.slice A l.length c] 30)).heap.size = w1.heap.size + 2 := by simp
    have hsw : w.heap.size ≤ w1.heap.size := HB1.out.size
    obtain ⟨s1, hs1⟩ : ∃ s1, w1.heap.size = s1 := ⟨_, rfl⟩
    obtain ⟨W0, hW0⟩ : ∃ W0, (w1.alloc (.cells #[.int .i64 0] 2)).alloc (.cells #[.slice A l.length c] 30) = W0 := ⟨_, rfl⟩
    rw [hW0] at bN bA hB0 hsz ⊢
    simp only [World.size_alloc, hs1] at bN bA hsz hsw ⊢
    clear hW0 HB1
    refine wpIn_rangeFunc_ownG rfl (by omega) (gf := 25) (lb := #[.pointer (some ⟨s1 + 1, 0, none⟩)]) rfl trivial (enters_of Try.func25 (by kernel_rfl) rfl)
      (sums_stops Fence.wide 8 trivial rfl (by omega) (s1 + 1) w.heap.size A c l W0 (by omega) HM.out bA (IN.out.below hB0)) belowK_t (belowK_b (by omega)) (Below.refl _ _) (fun _ => rfl)
      (fun pre W => Boxed W s1 2 (.int .i64 (lastE l pre)) ∧ Below w.heap.size w W)
      (fun _ _ _ => False)
      (OwnFrom.and (Own.from (boxed_own _ _ _) _) (ownFrom_below (Nat.le_refl _) (by omega)))
      (fun _ _ _ _ _ hs _ _ => hs)
      ⟨bN, hB0⟩
      (fun x => { tmps := #[.slice A l.length c, undef, .int .i64 0, .bool false, .pointer (some ⟨s1, 0, none⟩), undef, .int .i64 (sumI (l.take (x.1 + 1))), .slice A l.length c, .bool true, .bool false, .slice A l.length c, .func (.func 25) #[] #[.pointer (some ⟨s1 + 1, 0, none⟩)], .int .i64 (x.1 : Int), .int .i64 (sumI (l.take (x.1 + 1))), undef, undef], defers := [] })
      ?assign ?body ?done ?stop
    case assign =>
      intro l1 x W K hK
      unfold sumsE
      gi_wp2
      exact hK
    case body =>
      rintro l1 pre x W ⟨b1, hB1⟩ hlt
      have cN := b1.cell
      have fN := b1.frozen
      gi_wp2
      refine ⟨(KeepsOthers.setCell _ _ _).from _, (Below.refl _ _).setCell (p := ⟨s1, 0, none⟩) (by simp; omega) _, ?_, hB1.setCell (p := ⟨s1, 0, none⟩) (by simp; omega) _⟩
      rw [lastE_snoc]
      exact b1.set _
    case done =>
      rintro D ys W hD rfl ⟨b1, hB1⟩ hK
      have cN := b1.cell
      rw [lastE_all] at cN
      go_wp2
      refine ⟨by simp, .inl ⟨_, _, rfl, run_takeDeferred hK, ?_⟩⟩
      refine ⟨_, results_tmp2 rfl _ _ _, ?_, hB1.trans (belowK_b (w := w) (Nat.le_refl _) W D _ _ (by omega) hK rfl rfl)⟩
      rw [HR.out]
      rfl
    case stop =>
      rintro D c pre W _ _ h _
      exact h.elim
/-- at which place a sum is beyond a number -/
theorem pickN_at : ∀ (l : List (IntV .i64)) (n : Int) (j : Nat), j < l.length → l.all okW = true → sumI (l.take j) ≤ n → n < sumI (l.take (j + 1)) → pickN n l = j
  | [], n, j, h, _, _, _ => by simp at h
  | z :: l, n, 0, _, _, _, h2 => by
    have h3 : n < z.1 := by simpa [sumI] using h2
    rw [pickN, if_pos h3]
  | z :: l, n, j + 1, h, ha, h1, h2 => by
    simp only [List.all_cons, Bool.and_eq_true] at ha
    simp only [List.take_succ_cons, sumI] at h1 h2
    have h3 : (l.take j).all okW = true := by
      rw [List.all_eq_true]
      intro x hx
      exact List.all_eq_true.1 ha.2 x (List.mem_of_mem_take hx)
    have h4 := sumI_rng _ h3
    rw [pickN, if_neg (by omega), pickN_at l (n - z.1) j (by simpa using h) ha.2 (by omega) (by omega)]
theorem fin_pre {m : Nat} {p : List (Fin m)} {x : Fin m} {k : Nat} (h : (List.finRange m).take k = p ++ [x]) : p = (List.finRange m).take x.1 := by
  have h1 : ((List.finRange m).take k).length = p.length + 1 := by rw [h]; simp
  rw [List.length_take, List.length_finRange] at h1
  have h2 : ((List.finRange m).take k)[p.length]? = some x := by rw [h]; simp
  rw [List.getElem?_take_of_lt (by omega), List.getElem?_eq_getElem (by rw [List.length_finRange]; omega)] at h2
  have h3 : x.1 = p.length := by
    have := Option.some.inj h2
    rw [← this]
    simp
  rw [h3]
  have h4 := congrArg (List.take p.length) h
  rw [List.take_take, List.take_left] at h4
  rw [show min p.length k = p.length by omega] at h4
  exact h4.symm
/-- the first place whose sum is beyond a number is the one that is picked -/
theorem pick_here {l : List (IntV .i64)} {r : Int} {p : List (Fin l.length)} {x : Fin l.length} {k : Nat} (hM : mayB l = true) (h0 : 0 ≤ r) (h : (List.finRange l.length).take k = p ++ [x]) (hp : ∀ y ∈ p, sumI (l.take (y.1 + 1)) ≤ r) (hx : r < sumI (l.take (x.1 + 1))) : pickN r l = x.1 := by
  have ha : l.all okW = true := by
    unfold mayB at hM
    simp only [Bool.and_eq_true] at hM
    exact hM.1
  refine pickN_at l r x.1 x.2 ha ?_ hx
  by_cases hz : x.1 = 0
  · rw [hz]; simpa [sumI] using h0
  · have h1 := fin_pre h
    have h2 : (⟨x.1 - 1, by have := x.2; omega⟩ : Fin l.length) ∈ p := by
      rw [h1, List.mem_iff_getElem]
      refine ⟨x.1 - 1, by rw [List.length_take, List.length_finRange]; have := x.2; omega, ?_⟩
      rw [List.getElem_take]
      simp
    have h3 := hp _ h2
    have e : x.1 - 1 + 1 = x.1 := by omega
    simp only [e] at h3
    exact h3
set_option maxRecDepth 100000 in
set_option maxHeartbeats 4000000 in
theorem pPick_c : PickOk := fun A c l d w h hl => by
  have IN := Lib.hid h
  have SU := Lib.hid (fun W (hW : Below w.heap.size w W) => pSum_c A c l W ((h.below hW).more hW.size) hl)
  obtain ⟨s, hs⟩ : ∃ s, (sumW l).getD 0 = s := ⟨_, rfl⟩
  obtain ⟨q, hq⟩ : ∃ q, (sumW l).isSome = q := ⟨_, rfl⟩
  have HV := Lib.hid (show sumV l = .tuple #[.int .i64 s, .bool q] by unfold sumV; rw [hs, hq])
  have b4 := (Boxed.new w 3 (.int .i64 0)).alloc (.cells #[.bool false] 4)
  have b5 := Boxed.new (w.alloc (.cells #[.int .i64 0] 3)) 4 (.bool false)
  have B0 : Below w.heap.size w ((w.alloc (.cells #[.int .i64 0] 3)).alloc (.cells #[.bool false] 4)) := ((Below.refl _ w).alloc (Nat.le_refl _) _).alloc (by simp) _
  simp only [World.size_alloc] at b5
  clear h
  by_cases hz : s = 0
  · have HR := Lib.hid (show pickV l d.1 = .tuple #[.int .i64 0, .bool false] by
      unfold pickV pickW
      cases hS : sumW l with
      | none => rfl
      | some s' =>
        rw [hS] at hs
        have : s' = 0 := by rw [← hz, ← hs]; rfl
        simp [this])
    subst hz
    have W4 := Lib.hid b4
    have W5 := Lib.hid b5
    have H0 := Lib.hid B0
    clear hs hq b4 b5 B0
    go_enter Try.func12, Try.ntmps12
    go_wp2_with fail
    refine (SU.out _ H0.out).mono ?_
    rintro e w1 ⟨rfl, b1⟩
    rw [HV.out]
    have B1 : Below w.heap.size w w1 := H0.out.trans (b1.mono H0.out.size)
    have c4 : Boxed w1 w.heap.size 3 (.int .i64 0) := (b1.block _ W4.out.lt).trans W4.out
    have c5 : Boxed w1 (w.heap.size + 1) 4 (.bool false) := (b1.block _ W5.out.lt).trans W5.out
    have k4 := c4.cell
    have f4 := c4.frozen
    have k5 := c5.cell
    have f5 := c5.frozen
    have C4 := Lib.hid c4
    have C5 := Lib.hid c5
    have HB := Lib.hid B1
    clear b1 SU c4 c5 B1
    go_wp2_with fail
    have e4 := ((C4.out.set (.int .i64 0)).other (B' := w.heap.size + 1) (by omega) (.bool false)).cell
    have e5 := ((C5.out.other (B' := w.heap.size) (by omega) (.int .i64 0)).set (.bool false)).cell
    refine bodyPost_ret (v := .tuple #[.int .i64 0, .bool false]) (by simp [results, Try.f12, go_sem, e4, e5]) rfl ?_
    exact ⟨by rw [HR.out], (HB.out.setCell (p := ⟨w.heap.size, 0, none⟩) (Nat.le_refl _) _).setCell (p := ⟨w.heap.size + 1, 0, none⟩) (by simp) _⟩
  · obtain ⟨hM, hsI⟩ : mayB l = true ∧ s = sumI l := by
      rw [sumW_may] at hs
      cases hM : mayB l with
      | true => rw [hM] at hs; exact ⟨rfl, hs.symm⟩
      | false => rw [hM] at hs; exact absurd hs.symm hz
    obtain ⟨r, hr0⟩ : ∃ r : Int, d.1.tmod s = r := ⟨_, rfl⟩
    have hd0 := wf_u64r d
    have hsr := sumI_take_rng hM l.length
    rw [List.take_length, ← hsI] at hsr
    have hr1 : 0 ≤ r := hr0 ▸ Int.tmod_nonneg s hd0.1
    have hr2 : r < s := hr0 ▸ Int.tmod_lt_of_pos d.1 (by omega)
    have HR := Lib.hid (show pickV l d.1 = .tuple #[.int .i64 (pickN r l : Nat), .bool true] by
      unfold pickV pickW
      rw [sumW_may, hM, if_pos rfl, ← hsI]
      simp only [hz, if_false, hr0]
      rfl)
    have hq1 : q = true := by rw [← hq, sumW_may, hM]; rfl
    subst hq1
    have hz0 : (s == 0) = false := beq_eq_false_iff_ne.mpr hz
    have hu1 : s % 18446744073709551616 = s := by omega
    have hu2 : IntKind.u64.wrap s = s := by rw [show IntKind.u64.wrap s = s % 18446744073709551616 from rfl]; exact hu1
    have hu3 : IntKind.i64.wrap r = r := by rw [IntKind.wrap_i64]; omega
    have HM := Lib.hid hM
    have HSI := Lib.hid hsI
    have HR1 := Lib.hid hr1
    have HR2 := Lib.hid hr2
    have W4 := Lib.hid b4
    have W5 := Lib.hid b5
    have H0 := Lib.hid B0
    clear hs hq b4 b5 B0 hM hsI hd0 hsr hr1 hr2
    refine (callsIn_wide (n := 9)).1 ?_
    refine callsIn_of_wp_marks Try.func12 rfl trivial ?_ rfl
    refine wpIn_wide.2 ?_
    simp only [Try.ntmps12, List.size_toArray, List.length_cons, List.length_nil, Nat.reduceAdd, Nat.reduceSub, Array.replicate_succ, Array.replicate_zero, List.push_toArray, List.append_toArray, List.nil_append, List.cons_append]
    go_wp2_with fail
    refine (SU.out _ H0.out).mono ?_
    rintro e w1 ⟨rfl, b1⟩
    rw [HV.out]
    have B1 : Below w.heap.size w w1 := H0.out.trans (b1.mono H0.out.size)
    have C4 := Lib.hid (show Boxed w1 w.heap.size 3 (.int .i64 0) from (b1.block _ W4.out.lt).trans W4.out)
    have C5 := Lib.hid (show Boxed w1 (w.heap.size + 1) 4 (.bool false) from (b1.block _ W5.out.lt).trans W5.out)
    have HZ2 := Lib.hid (show w.heap.size + 2 ≤ w1.heap.size by have := b1.size; simp at this; omega)
    have HB := Lib.hid B1
    clear b1 SU B1 H0 W4 W5 HV
    go_wp2_with fail
    refine (callsIn_wide.1 (sums_in Fence.wide 9 trivial rfl A l.length c _)).mono ?_
    rintro e w2 ⟨rfl, rfl⟩
    go_wp2_with fail
    rw [← wpIn_wide (n := 9)]
    have b8 := (Boxed.new w1 2 (.int .i64 r)).alloc (.cells #[.slice A l.length c] 30)
    have b4 := (C4.out.alloc (.cells #[.int .i64 r] 2)).alloc (.cells #[.slice A l.length c] 30)
    have b5 := (C5.out.alloc (.cells #[.int .i64 r] 2)).alloc (.cells #[.slice A l.length c] 30)
    have bA := Blk.new (w1.alloc (.cells #[.int .i64 r] 2)) 30 #[.slice A l.length c]
    have hB0 : Below w.heap.size w ((w1.alloc (.cells #[.int .i64 r] 2)).alloc (.cells #[.slice A l.length c] 30)) := (HB.out.alloc HB.out.size _).alloc (by have := HB.out.size; simp; omega) _
    have hsz : ((w1.alloc (.cells #[.int .i64 r] 2)).alloc (.cells #[.slice A l.length c] 30)).heap.size = w1.heap.size + 2 := by simp
    have hsw : w.heap.size + 2 ≤ w1.heap.size := HZ2.out
    obtain ⟨s1, hs1⟩ : ∃ s1, w1.heap.size = s1 := ⟨_, rfl⟩
    obtain ⟨W0, hW0⟩ : ∃ W0, (w1.alloc (.cells #[.int .i64 r] 2)).alloc (.cells #[.slice A l.length c] 30) = W0 := ⟨_, rfl⟩
    rw [hW0] at b4 b5 b8 bA hB0 hsz ⊢
    simp only [World.size_alloc, hs1] at b8 bA hsz hsw ⊢
    clear hW0 HB HZ2
    refine wpIn_rangeFunc_ownG rfl (by omega) (gf := 25) (lb := #[.pointer (some ⟨s1 + 1, 0, none⟩)]) rfl trivial (enters_of Try.func25 (by kernel_rfl) rfl)
      (sums_stops Fence.wide 8 trivial rfl (by omega) (s1 + 1) w.heap.size A c l W0 (by omega) HM.out bA (IN.out.below hB0)) belowK_t (belowK_b (by omega)) (Below.refl _ _) (fun _ => rfl)
      (fun pre W => (∀ y ∈ pre, sumI (l.take (y.1 + 1)) ≤ r) ∧ Boxed W w.heap.size 3 (.int .i64 0) ∧ Boxed W (w.heap.size + 1) 4 (.bool false) ∧ Boxed W s1 2 (.int .i64 r) ∧ Below w.heap.size w W)
      (fun e pre W => (e = .ret ∧ ∃ p x, pre = p ++ [x] ∧ (∀ y ∈ p, sumI (l.take (y.1 + 1)) ≤ r) ∧ r < sumI (l.take (x.1 + 1)) ∧ W.cell? ⟨w.heap.size, 0, none⟩ = some (.int .i64 (x.1 : Int)) ∧ W.cell? ⟨w.heap.size + 1, 0, none⟩ = some (.bool true)) ∧ Below w.heap.size w W)
      (OwnFrom.and (ownFrom_pure _ _) (OwnFrom.and (Own.from (boxed_own _ _ _) _) (OwnFrom.and (Own.from (boxed_own _ _ _) _) (OwnFrom.and (Own.from (boxed_own _ _ _) _) (ownFrom_below (Nat.le_refl _) (by omega))))))
      (fun e => OwnFrom.and (Own.from (fun s A B row hs hg hr => by obtain ⟨h1, p, x, h2, h3, h4, h5, h6⟩ := hs; exact ⟨h1, p, x, h2, h3, h4, cell_kept h5 hg hr, cell_kept h6 hg hr⟩) _) (ownFrom_below (Nat.le_refl _) (by omega)))
      ⟨by simp, b4, b5, b8, hB0⟩
      (fun x => { tmps := #[.slice A l.length c, .int .u64 d.1, undef, undef, .pointer (some ⟨w.heap.size, 0, none⟩), .pointer (some ⟨w.heap.size + 1, 0, none⟩), .int .i64 s, .bool true, .pointer (some ⟨s1, 0, none⟩), .int .i64 (x.1 : Int), .int .i64 (sumI (l.take (x.1 + 1))), .tuple #[.int .i64 s, .bool true], .slice A l.length c, .tuple #[.int .i64 s, .bool true], .int .i64 s, .bool true, .int .i64 s, .bool false, .int .u64 d.1, .int .i64 s, .int .u64 s, .int .u64 r, .int .i64 r, .slice A l.length c, .func (.func 25) #[] #[.pointer (some ⟨s1 + 1, 0, none⟩)], .int .i64 (x.1 : Int), .int .i64 (sumI (l.take (x.1 + 1))), undef, undef, undef, undef], defers := [] })
      ?assign ?body ?done ?stop
    case assign =>
      intro l1 x W K hK
      unfold sumsE
      gi_wp2
      exact hK
    case body =>
      rintro l1 pre x W ⟨hp, b4, b5, b8, hB1⟩ hlt
      have c4 := b4.cell
      have f4 := b4.frozen
      have c8 := b8.cell
      obtain ⟨E, hE⟩ : ∃ E, sumI (l.take (x.1 + 1)) = E := ⟨_, rfl⟩
      have HE := Lib.hid hE
      rw [hE]
      have hne : w.heap.size + 1 ≠ w.heap.size := by omega
      have c5 := b5.cell
      have f5 := b5.frozen
      clear hE
      by_cases hx : r < E
      · have hd : decide (r < E) = true := decide_eq_true hx
        have HX := Lib.hid hx
        have b5' := (b5.other (B' := w.heap.size) hne (.int .i64 (x.1 : Int)))
        have c5' := b5'.cell
        have f5' := b5'.frozen
        clear hx
        gi_wp2
        exact ⟨((KeepsOthers.setCell _ _ _).trans (KeepsOthers.setCell _ _ _)).from _, ⟨rfl, pre, x, rfl, hp, by rw [HE.out]; exact HX.out, ((b4.set (.int .i64 (x.1 : Int))).other (B' := w.heap.size + 1) (by omega) (.bool true)).cell, (b5'.set (.bool true)).cell⟩,
          (hB1.setCell (p := ⟨w.heap.size, 0, none⟩) (Nat.le_refl _) _).setCell (p := ⟨w.heap.size + 1, 0, none⟩) (by simp) _⟩
      · have hd : decide (r < E) = false := decide_eq_false hx
        have HX := Lib.hid hx
        clear hx
        gi_wp2
        refine ⟨KeepsFrom.refl _ _, Below.refl _ _, fun y hy => ?_, b4, b5, b8, hB1⟩
        rcases List.mem_append.1 hy with hy | hy
        · exact hp y hy
        · have : y = x := by simpa using hy
          rw [this, HE.out]
          have := HX.out
          omega
    case done =>
      rintro D ys W hD rfl ⟨hp, b4, b5, b8, hB1⟩ hK
      exfalso
      have h1 := HR2.out
      have hl0 : 0 < l.length := by
        refine Nat.pos_of_ne_zero fun e => ?_
        have h2 : l = [] := List.eq_nil_of_length_eq_zero e
        have := HSI.out
        rw [h2] at this
        have h3 : s = 0 := this
        have := HR1.out
        omega
      have h2 := hp ⟨l.length - 1, by omega⟩ (List.mem_finRange _)
      rw [show l.length - 1 + 1 = l.length by omega, List.take_length, ← HSI.out] at h2
      omega
    case stop =>
      rintro D e pre W hD ⟨k, hk, rfl⟩ ⟨⟨rfl, p, x, h1, h2, h3, k4, k5⟩, hB1⟩ hK
      have HP := Lib.hid (pick_here HM.out HR1.out h1 h2 h3)
      gi_wp2
      refine ⟨by simp, .inl ⟨_, _, rfl, run_takeDeferred hK, ?_⟩⟩
      have hk4 := cell_kept k4 (grownBy_putObj' _ D (.deferred none)) (fun r e => by cases e; exact ⟨_, hK, rfl⟩)
      have hk5 := cell_kept k5 (grownBy_putObj' _ D (.deferred none)) (fun r e => by cases e; exact ⟨_, hK, rfl⟩)
      refine ⟨.tuple #[.int .i64 (x.1 : Int), .bool true], ?_, ?_, hB1.trans (belowK_b (w := w) (Nat.le_refl _) W D _ _ (by omega) hK rfl rfl)⟩
      · simp [results, Try.f12, go_sem, hk4, hk5]
      · rw [HR.out, HP.out]
theorem pSize_c (a : TxA) (w : World) (h : a.In w w.heap.size) :
    Calls Try.prog 21 #[.agg a.cells.toArray] w fun e w' => e = .returned (.int .i64 (cosSize a.T : Nat)) ∧ Below w.heap.size w w' := by
  have HI := Lib.hid (show a.In (w.alloc (.cells a.cells.toArray 29)) _ from TxA.In.on h ((Below.refl _ _).alloc (Nat.le_refl _) _) (Nat.le_refl _))
  have HB := Lib.hid (show RowC (w.alloc (.cells a.cells.toArray 29)) w.heap.size 0 a.cells from RowC.of_blk (Blk.new _ _ _))
  clear h
  unfold cosSize
  go_enter Try.func21, Try.ntmps21
  go_wp2_with ((with_reducible refine at_load 1 ?_); refine tyTx.wpList_load rfl (.tmp 1) rfl w.heap.size 0 rfl a HB.out ?_)
  refine (encA_any a _ HI.out).mono ?_
  rintro e w1 ⟨rfl, b1⟩
  unfold encV
  have B1 := Lib.hid (((Below.refl w.heap.size w).alloc (Nat.le_refl _) (.cells a.cells.toArray 29)).trans (b1.mono (by simp)))
  clear b1
  go_wp2_with fail
  go_ret
  exact ⟨by simp, B1.out⟩
theorem pCost_c : CostTOk := fun a w h _ => by
  have HI := Lib.hid (show a.In (w.alloc (.cells a.cells.toArray 29)) _ from TxA.In.on h ((Below.refl _ _).alloc (Nat.le_refl _) _) (Nat.le_refl _))
  have HB := Lib.hid (show RowC (w.alloc (.cells a.cells.toArray 29)) w.heap.size 0 a.cells from RowC.of_blk (Blk.new _ _ _))
  have SZ := Lib.hid (fun W hW => pSize_c a W hW)
  obtain ⟨n, hn⟩ : ∃ n, cosSize a.T = n := ⟨_, rfl⟩
  have HC := Lib.hid (show costF a.T = max (n : Int) 4000 by unfold costF; rw [hn])
  rw [hn] at SZ
  clear h hn
  go_enter Try.func14, Try.ntmps14
  go_wp2_with ((with_reducible refine at_load 1 ?_); refine tyTx.wpList_load rfl (.tmp 1) rfl w.heap.size 0 rfl a HB.out ?_)
  refine (SZ.out _ HI.out).mono ?_
  rintro e w1 ⟨rfl, b1⟩
  have B1 := Lib.hid (((Below.refl w.heap.size w).alloc (Nat.le_refl _) (.cells a.cells.toArray 29)).trans (b1.mono (by simp)))
  clear b1
  go_wp2_with fail
  all_goals
    go_ret
    exact ⟨by rw [HC.out]; simp <;> omega, B1.out⟩
theorem pWeight_c : CostWOk := fun a f w h hf hi => by
  have HH := Lib.hid (show Holds w [(w.heap.size, 29, a.cells.toArray)] (w.alloc (.cells a.cells.toArray 29)) from (Holds.nil w).box 29 a.cells.toArray)
  have IA := Lib.hid h
  have PA := Lib.hid (fun W => pPays_f a f W hf hi)
  have CO := Lib.hid (fun W hW => pCost_c a W hW hf)
  obtain ⟨n, hn⟩ : ∃ n, costF a.T = n := ⟨_, rfl⟩
  have hw : IntKind.i64.wrap (n + 16000) = n + 16000 := by have := costF_le a.T; rw [IntKind.wrap_i64]; omega
  rw [hn] at CO
  cases hp : paysF a.T f with
  | true =>
    have HR := Lib.hid (show cosW a.T f = n by unfold cosW; rw [if_pos hp, hn])
    rw [hp] at PA
    clear h hf hn hp
    go_enter Try.func16, Try.ntmps16
    go_wp2_with ((with_reducible refine at_load 2 ?_); refine tyTx.wpList_load rfl (.tmp 2) rfl w.heap.size 0 rfl a (RowC.of_blk (HH.out.at (x := (w.heap.size, 29, a.cells.toArray)) (by simp))) ?_)
    refine (PA.out _).mono ?_
    rintro e w1 ⟨rfl, b1⟩
    have H1 := Lib.hid (HH.out.call b1)
    clear b1 HH
    go_wp2_with ((with_reducible refine at_load 2 ?_); refine tyTx.wpList_load rfl (.tmp 2) rfl w.heap.size 0 rfl a (RowC.of_blk (H1.out.at (x := (w.heap.size, 29, a.cells.toArray)) (by simp))) ?_)
    refine (CO.out _ (IA.out.on H1.out.below (Nat.le_refl _))).mono ?_
    rintro e w2 ⟨rfl, b2⟩
    have H2 := Lib.hid (H1.out.call b2)
    clear b2 H1
    go_wp2_with fail
    go_ret
    exact ⟨by rw [HR.out]; rfl, H2.out.below⟩
  | false =>
    have HR := Lib.hid (show cosW a.T f = n + 16000 by unfold cosW; rw [hp, hn]; rfl)
    rw [hp] at PA
    clear h hf hn hp
    go_enter Try.func16, Try.ntmps16
    go_wp2_with ((with_reducible refine at_load 2 ?_); refine tyTx.wpList_load rfl (.tmp 2) rfl w.heap.size 0 rfl a (RowC.of_blk (HH.out.at (x := (w.heap.size, 29, a.cells.toArray)) (by simp))) ?_)
    refine (PA.out _).mono ?_
    rintro e w1 ⟨rfl, b1⟩
    have H1 := Lib.hid (HH.out.call b1)
    clear b1 HH
    go_wp2_with ((with_reducible refine at_load 2 ?_); refine tyTx.wpList_load rfl (.tmp 2) rfl w.heap.size 0 rfl a (RowC.of_blk (H1.out.at (x := (w.heap.size, 29, a.cells.toArray)) (by simp))) ?_)
    refine (CO.out _ (IA.out.on H1.out.below (Nat.le_refl _))).mono ?_
    rintro e w2 ⟨rfl, b2⟩
    have H2 := Lib.hid (H1.out.call b2)
    clear b2 H1
    go_wp2_with fail
    go_ret
    exact ⟨by rw [HR.out]; rfl, H2.out.below⟩
end Go.Proofs.Ytpoejbfcioijhaa
