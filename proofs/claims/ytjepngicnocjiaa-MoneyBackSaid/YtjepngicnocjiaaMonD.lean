/- money.Fee's closure, and Fee. -/
import Derived.Test.YtjepngicnocjiaaMonC
import Derived.Deep.RegionWith
import Derived.BigQuiet
import Derived.Deep.QuietTactic
namespace Go.Proofs.Ytjepngicnocjiaa
open Go.RowKit
theorem feeO_ge (za zb : List Int) (x y bal : Int) (h1 : sumO 0 za = some x) (h2 : sumO 0 zb = some y) (h : 0 ≤ bal) : feeO za zb bal = (addO x bal).bind fun s => subO s y := by
  simp [feeO, h1, h2, h]
theorem feeO_lt (za zb : List Int) (x y bal : Int) (h1 : sumO 0 za = some x) (h2 : sumO 0 zb = some y) (h : ¬ 0 ≤ bal) : feeO za zb bal = (addO y (-bal)).bind fun s => subO x s := by
  simp [feeO, h1, h2, h]
theorem feeO_none (za zb : List Int) (bal : Int) (h : sumO 0 za = none ∨ sumO 0 zb = none) : feeO za zb bal = none := by
  unfold feeO
  rcases h with h | h
  · rw [h]
  · rw [h]; cases sumO 0 za <;> rfl
theorem sum_is (zs : List Int) (A : Option Addr) (n cap B : Nat) (x : Int) (w : World) (hr : Reads w B 1 A n (ints zs)) (hm : n ≤ maxLen) (hs : sumO 0 zs = some x) :
    Calls Try.prog 22 #[.slice A n cap] w fun e w' => e = .returned (.int .i64 x) ∧ w = w' := (sum_any zs A n cap B w hr hm).mono fun _ _ ⟨he, hw⟩ => ⟨he.trans (by rw [hs]; rfl), hw⟩
theorem sum_not (zs : List Int) (A : Option Addr) (n cap B : Nat) (w : World) (hr : Reads w B 1 A n (ints zs)) (hm : n ≤ maxLen) (hs : sumO 0 zs = none) :
    Calls Try.prog 22 #[.slice A n cap] w fun e w' => e = .panicked errCh ∧ w = w' := (sum_any zs A n cap B w hr hm).mono fun _ _ ⟨he, hw⟩ => ⟨he.trans (by rw [hs]; rfl), hw⟩
theorem sumP_any (a b : Int) (W : World) (ad : Addr) (B : Nat) (hr : Reads W B 1 (some ad) 2 (ints [a, b])) : Calls Try.prog 22 #[.slice (some ad) 2 2] W fun e w' => e = endO (addO a b) ∧ W = w' :=
  (sum_any [a, b] (some ad) 2 2 B W hr (by simp [maxLen])).mono fun _ _ ⟨h, hw⟩ => ⟨by rw [← sum_pair]; exact h, hw⟩
set_option maxHeartbeats 1000000 in
theorem feeC_some (pa pb pc : Addr) (za zb : List Int) (A1 A2 : Option Addr) (n1 c1 n2 c2 B : Nat) (bal x y : Int) (w : World) (h1 : Reads w B 1 A1 n1 (ints za)) (h2 : Reads w B 1 A2 n2 (ints zb)) (m1 : n1 ≤ maxLen) (m2 : n2 ≤ maxLen)
    (ha : w.cell? pa = some (.slice A1 n1 c1)) (hb : w.cell? pb = some (.slice A2 n2 c2)) (hc : w.cell? pc = some (.int .i64 bal)) (hbal : -9223372036854775808 ≤ bal ∧ bal ≤ 9223372036854775807) (s1 : sumO 0 za = some x) (s2 : sumO 0 zb = some y) :
    Calls Try.prog 26 #[.pointer (some pa), .pointer (some pb), .pointer (some pc)] w fun e w' => e = endO (feeO za zb bal) ∧ Below w.heap.size w w' := by
  obtain ⟨o, ho⟩ : ∃ o, feeO za zb bal = o := ⟨_, rfl⟩
  rw [ho]
  have S1 := Lib.hid s1
  have S2 := Lib.hid s2
  have H1 := Lib.hid h1
  have H2 := Lib.hid h2
  have Q1 := Lib.hid (fun nq => quiet_left (sum_is za A1 n1 c1 B x (w.drewN nq) (H1.out.drewN _) m1 S1.out))
  have Q2 := Lib.hid (fun nq => quiet_left (sum_is zb A2 n2 c2 B y (w.drewN nq) (H2.out.drewN _) m2 S2.out))
  by_cases hge : 0 ≤ bal
  · have HO := Lib.hid ((feeO_ge za zb x y bal s1 s2 hge).symm.trans ho)
    clear ho s1 s2 h1 h2 hbal
    go_enter Try.func26, Try.ntmps26
    go_wp2_with fail
    go_quiet ((first
      | (go_at_call 22; with_reducible exact Q1.out _)
      | (go_at_call 22; with_reducible exact Q2.out _)))
    clear ha hb
    go_wp2_with fail
    clear hc
    refine (sumP_any x bal _ _ (w.heap.size + 1) (reads_blk (t := 2) (Blk.drewN (Blk.new w _ _) _) (by simp) rfl)).mono ?_
    rintro e w' ⟨rfl, rfl⟩
    have hB : Below w.heap.size w ((w.alloc (.cells #[.int .i64 x, .int .i64 bal] 2)).drewN nq) := below_drewN ((Below.refl _ _).alloc (Nat.le_refl _) _) _
    have HB := Lib.hid hB
    clear hB
    cases h3 : addO x bal with
    | none => exact ⟨rfl, by rw [← HO.out, h3]; rfl, HB.out⟩
    | some s =>
      have H3 := Lib.hid h3
      clear h3
      simp only [endO]
      go_wp2_with fail
      cases h4 : subO s y with
      | none =>
        refine (less_none s y h4 _).mono ?_
        rintro e w' ⟨rfl, rfl⟩
        exact ⟨rfl, by rw [← HO.out, H3.out]; simp [h4, endO], HB.out⟩
      | some t =>
        have H4 := Lib.hid h4
        refine (less_some s y t h4 _).mono ?_
        clear h4
        rintro e w' ⟨rfl, rfl⟩
        go_wp2
        go_ret
        exact ⟨by rw [← HO.out, H3.out]; simp [H4.out, endO], HB.out⟩
  · have HO := Lib.hid ((feeO_lt za zb x y bal s1 s2 hge).symm.trans ho)
    have hlt : bal < 0 := by omega
    obtain ⟨hb1, hb2⟩ := hbal
    obtain ⟨bn, hbn⟩ : ∃ bn, wrap64 (-bal) = bn := ⟨_, rfl⟩
    have hadd : addO y bn = addO y (-bal) := by
      by_cases hm : bal = -9223372036854775808
      · have e1 : bn = -9223372036854775808 := by rw [← hbn, hm]; decide +kernel
        have f1 : mayB bn = false := mayB_mk_no (by omega)
        have f2 : mayB (-bal) = false := mayB_mk_no (by omega)
        simp [addO, f1, f2]
      · have e1 : bn = -bal := by rw [← hbn]; exact IntWalk.wrap64_in _ (by omega)
        rw [e1]
    have HA := Lib.hid hadd
    have HBN := Lib.hid hbn
    clear ho s1 s2 h1 h2 hge hadd hbn hb1 hb2
    go_enter Try.func26, Try.ntmps26
    go_wp2_with fail
    go_quiet ((first
      | (go_at_call 22; with_reducible exact Q1.out _)
      | (go_at_call 22; with_reducible exact Q2.out _)))
    clear ha hb
    go_wp2_with fail
    clear hc
    rw [HBN.out]
    refine (sumP_any y bn _ _ (w.heap.size + 1) (reads_blk (t := 2) (Blk.drewN (Blk.new w _ _) _) (by simp) rfl)).mono ?_
    rintro e w' ⟨rfl, rfl⟩
    have hB : Below w.heap.size w ((w.alloc (.cells #[.int .i64 y, .int .i64 bn] 2)).drewN nq) := below_drewN ((Below.refl _ _).alloc (Nat.le_refl _) _) _
    have HB := Lib.hid hB
    clear hB
    cases h3 : addO y bn with
    | none => exact ⟨rfl, by rw [← HO.out, ← HA.out, h3]; rfl, HB.out⟩
    | some s =>
      have H3 := Lib.hid h3
      clear h3
      simp only [endO]
      go_wp2_with fail
      cases h4 : subO x s with
      | none =>
        refine (less_none x s h4 _).mono ?_
        rintro e w' ⟨rfl, rfl⟩
        exact ⟨rfl, by rw [← HO.out, ← HA.out, H3.out]; simp [h4, endO], HB.out⟩
      | some t =>
        have H4 := Lib.hid h4
        refine (less_some x s t h4 _).mono ?_
        clear h4
        rintro e w' ⟨rfl, rfl⟩
        go_wp2
        go_ret
        exact ⟨by rw [← HO.out, ← HA.out, H3.out]; simp [H4.out, endO], HB.out⟩
set_option maxHeartbeats 1000000 in
theorem feeC_none (pa pb pc : Addr) (za : List Int) (A1 A2 : Option Addr) (n1 c1 n2 c2 B : Nat) (w : World) (h1 : Reads w B 1 A1 n1 (ints za)) (m1 : n1 ≤ maxLen)
    (ha : w.cell? pa = some (.slice A1 n1 c1)) (hb : w.cell? pb = some (.slice A2 n2 c2)) (s1 : sumO 0 za = none) :
    Calls Try.prog 26 #[.pointer (some pa), .pointer (some pb), .pointer (some pc)] w fun e w' => e = .panicked errCh ∧ Below w.heap.size w w' := by
  have Q1 := Lib.hid ((sum_not za A1 n1 c1 B w.drew h1.drew m1 s1).mono fun e w' h => (⟨h.1, (h.2 ▸ (Below.refl _ _).drew : Below w.heap.size w w')⟩ : e = .panicked errCh ∧ Below w.heap.size w w'))
  clear h1 s1 m1
  go_enter Try.func26, Try.ntmps26
  go_wp2_with fail
  refine wp_region_any (by kernel_rfl) ?_
  change wpAny _ _ _ _ _ _ _ (World.drew _)
  refine wpAny_ready (rs := [0, 2]) (by kernel_rfl) (by simp) ?_
  refine AllReady.cons rfl (fun K hK => ?_) ?_
  · go_simp
    refine hK _ _ ?_
    clear hK K
    refine wpAny_ready (rs := [1, 2]) (by kernel_rfl) (by simp) ?_
    refine AllReady.cons rfl (fun K hK => ?_) ?_
    · go_simp
      refine Q1.out.mono ?_
      rintro e w' ⟨rfl, hB⟩
      exact ⟨rfl, rfl, hB⟩
    refine AllReady.cons rfl (fun K hK => ?_) AllReady.nil
    go_simp
    refine hK _ _ ?_
    clear hK K
    refine wpAny_ready (rs := [1]) (by kernel_rfl) (by simp) ?_
    refine AllReady.cons rfl (fun K hK => ?_) AllReady.nil
    go_simp
    refine Q1.out.mono ?_
    rintro e w' ⟨rfl, hB⟩
    exact ⟨rfl, rfl, hB⟩
  refine AllReady.cons rfl (fun K hK => ?_) AllReady.nil
  go_simp
  refine hK _ _ ?_
  clear hK K
  refine wpAny_ready (rs := [0]) (by kernel_rfl) (by simp) ?_
  refine AllReady.cons rfl (fun K hK => ?_) AllReady.nil
  go_simp
  refine hK _ _ ?_
  clear hK K
  refine wpAny_ready (rs := [1]) (by kernel_rfl) (by simp) ?_
  refine AllReady.cons rfl (fun K hK => ?_) AllReady.nil
  go_simp
  refine Q1.out.mono ?_
  rintro e w' ⟨rfl, hB⟩
  exact ⟨rfl, rfl, hB⟩
set_option maxHeartbeats 1000000 in
theorem feeC_none2 (pa pb pc : Addr) (za zb : List Int) (A1 A2 : Option Addr) (n1 c1 n2 c2 B : Nat) (x : Int) (w : World) (h1 : Reads w B 1 A1 n1 (ints za)) (h2 : Reads w B 1 A2 n2 (ints zb)) (m1 : n1 ≤ maxLen) (m2 : n2 ≤ maxLen)
    (ha : w.cell? pa = some (.slice A1 n1 c1)) (hb : w.cell? pb = some (.slice A2 n2 c2)) (s1 : sumO 0 za = some x) (s2 : sumO 0 zb = none) :
    Calls Try.prog 26 #[.pointer (some pa), .pointer (some pb), .pointer (some pc)] w fun e w' => e = .panicked errCh ∧ Below w.heap.size w w' := by
  have Q1 := Lib.hid (sum_is za A1 n1 c1 B x w.drew h1.drew m1 s1)
  have Q2 := Lib.hid ((sum_not zb A2 n2 c2 B w.drew h2.drew m2 s2).mono fun e w' h => (⟨h.1, (h.2 ▸ (Below.refl _ _).drew : Below w.heap.size w w')⟩ : e = .panicked errCh ∧ Below w.heap.size w w'))
  clear h1 s1 h2 s2 m1 m2
  go_enter Try.func26, Try.ntmps26
  go_wp2_with fail
  refine wp_region_any (by kernel_rfl) ?_
  change wpAny _ _ _ _ _ _ _ (World.drew _)
  refine wpAny_ready (rs := [0, 2]) (by kernel_rfl) (by simp) ?_
  refine AllReady.cons rfl (fun K hK => ?_) ?_
  · go_simp
    refine hK _ _ ?_
    clear hK K
    refine wpAny_ready (rs := [1, 2]) (by kernel_rfl) (by simp) ?_
    refine AllReady.cons rfl (fun K hK => ?_) ?_
    · go_simp
      refine Q1.out.mono ?_
      rintro e w' ⟨rfl, rfl⟩
      refine hK _ _ ?_
      clear hK K
      refine wpAny_ready (rs := [2]) (by kernel_rfl) (by simp) ?_
      refine AllReady.cons rfl (fun K hK => ?_) AllReady.nil
      go_simp
      refine hK _ _ ?_
      clear hK K
      refine wpAny_ready (rs := [3]) (by kernel_rfl) (by simp) ?_
      refine AllReady.cons rfl (fun K hK => ?_) AllReady.nil
      go_simp
      refine Q2.out.mono ?_
      rintro e w' ⟨rfl, hB⟩
      exact ⟨rfl, rfl, hB⟩
    refine AllReady.cons rfl (fun K hK => ?_) AllReady.nil
    go_simp
    refine hK _ _ ?_
    clear hK K
    refine wpAny_ready (rs := [1]) (by kernel_rfl) (by simp) ?_
    refine AllReady.cons rfl (fun K hK => ?_) AllReady.nil
    go_simp
    refine Q1.out.mono ?_
    rintro e w' ⟨rfl, rfl⟩
    refine hK _ _ ?_
    clear hK K
    refine wpAny_ready (rs := [3]) (by kernel_rfl) (by simp) ?_
    refine AllReady.cons rfl (fun K hK => ?_) AllReady.nil
    go_simp
    refine Q2.out.mono ?_
    rintro e w' ⟨rfl, hB⟩
    exact ⟨rfl, rfl, hB⟩
  refine AllReady.cons rfl (fun K hK => ?_) AllReady.nil
  go_simp
  refine hK _ _ ?_
  clear hK K
  refine wpAny_ready (rs := [0]) (by kernel_rfl) (by simp) ?_
  refine AllReady.cons rfl (fun K hK => ?_) AllReady.nil
  go_simp
  refine hK _ _ ?_
  clear hK K
  refine wpAny_ready (rs := [1]) (by kernel_rfl) (by simp) ?_
  refine AllReady.cons rfl (fun K hK => ?_) AllReady.nil
  go_simp
  refine Q1.out.mono ?_
  rintro e w' ⟨rfl, rfl⟩
  refine hK _ _ ?_
  clear hK K
  refine wpAny_ready (rs := [3]) (by kernel_rfl) (by simp) ?_
  refine AllReady.cons rfl (fun K hK => ?_) AllReady.nil
  go_simp
  refine Q2.out.mono ?_
  rintro e w' ⟨rfl, hB⟩
  exact ⟨rfl, rfl, hB⟩
theorem feeC_any (pa pb pc : Addr) (za zb : List Int) (A1 A2 : Option Addr) (n1 c1 n2 c2 B : Nat) (bal : Int) (w : World) (h1 : Reads w B 1 A1 n1 (ints za)) (h2 : Reads w B 1 A2 n2 (ints zb)) (m1 : n1 ≤ maxLen) (m2 : n2 ≤ maxLen)
    (ha : w.cell? pa = some (.slice A1 n1 c1)) (hb : w.cell? pb = some (.slice A2 n2 c2)) (hc : w.cell? pc = some (.int .i64 bal)) (hbal : -9223372036854775808 ≤ bal ∧ bal ≤ 9223372036854775807) :
    Calls Try.prog 26 #[.pointer (some pa), .pointer (some pb), .pointer (some pc)] w fun e w' => e = endO (feeO za zb bal) ∧ Below w.heap.size w w' := by
  cases s1 : sumO 0 za with
  | none => rw [feeO_none za zb bal (.inl s1)]; exact feeC_none pa pb pc za A1 A2 n1 c1 n2 c2 B w h1 m1 ha hb s1
  | some x =>
    cases s2 : sumO 0 zb with
    | none => rw [feeO_none za zb bal (.inr s2)]; exact feeC_none2 pa pb pc za zb A1 A2 n1 c1 n2 c2 B x w h1 h2 m1 m2 ha hb s1 s2
    | some y => exact feeC_some pa pb pc za zb A1 A2 n1 c1 n2 c2 B bal x y w h1 h2 m1 m2 ha hb hc hbal s1 s2
theorem fee_any (za zb : List Int) (A1 A2 : Option Addr) (n1 c1 n2 c2 B : Nat) (bal : Int) (w : World) (h1 : Reads w B 1 A1 n1 (ints za)) (h2 : Reads w B 1 A2 n2 (ints zb)) (hB : B ≤ w.heap.size) (m1 : n1 ≤ maxLen) (m2 : n2 ≤ maxLen)
    (hbal : -9223372036854775808 ≤ bal ∧ bal ≤ 9223372036854775807) :
    Calls Try.prog 16 #[.slice A1 n1 c1, .slice A2 n2 c2, .int .i64 bal] w fun e w' => e = .returned (resO (feeO za zb bal)) ∧ Below w.heap.size w w' := by
  have hmf : ∀ (fn : Fn) (first cap : Array Value) (w : World), (Instr.makeFunc fn first cap).run Try.prog w = .ok (.func fn first cap) w := fun _ _ _ _ => rfl
  have H1 := Lib.hid h1
  have H2 := Lib.hid h2
  have HB := Lib.hid hbal
  clear h1 h2 hbal
  go_enter Try.func16, Try.ntmps16
  go_wp2_with fail
  have hB1 : Below w.heap.size w (((w.alloc (.cells #[.slice A1 n1 c1] 22)).alloc (.cells #[.slice A2 n2 c2] 22)).alloc (.cells #[.int .i64 bal] 2)) := (((Below.refl _ _).alloc (Nat.le_refl _) _).alloc (by simp) _).alloc (by simp; omega) _
  refine (told_any 26 #[.pointer (some ⟨w.heap.size, 0, none⟩), .pointer (some ⟨w.heap.size + 1, 0, none⟩), .pointer (some ⟨w.heap.size + 2, 0, none⟩)] (feeO za zb bal) _ (enter_fee _)
    (fun w1 b1 => feeC_any _ _ _ za zb A1 A2 n1 c1 n2 c2 B bal w1 ((((H1.out.alloc hB _).alloc (by simp; omega) _).alloc (by simp; omega) _).below (b1.mono (by simp; omega))) ((((H2.out.alloc hB _).alloc (by simp; omega) _).alloc (by simp; omega) _).below (b1.mono (by simp; omega))) m1 m2
      ((below_blk b1 (((Blk.new w 22 #[.slice A1 n1 c1]).alloc _).alloc _) (by simp; omega)).cell 0) ((below_blk b1 ((blk_new 22 #[.slice A2 n2 c2] (g := w.heap.size + 1) (by simp)).alloc _) (by simp)).cell 0) ((below_blk b1 (blk_new 2 #[.int .i64 bal] (g := w.heap.size + 2) (by simp)) (by simp)).cell 0) HB.out)).mono ?_
  rintro e w2 ⟨rfl, b2⟩
  have B2 := hB1.trans (b2.mono (by simp; omega))
  simp only [resO]
  go_wp2
  go_ret2
  exact ⟨rfl, B2⟩
end Go.Proofs.Ytjepngicnocjiaa
