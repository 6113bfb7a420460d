/- MoneyBack: the statement's walk. -/
import Derived.Test.YtjepngicnocjiaaMonS
import Derived.Test.YtjepngicnocjiaaMonQ
import Derived.Test.YtjepngicnocjiaaRowArg
import Derived.Test.YtjepngicnocjiaaApp2
namespace Go.Proofs.Ytjepngicnocjiaa
open Go.RowKit
theorem back_info : (Try.prog.info? 2).map (fun i => (i.zero, i.size, i.bytes)) = some (some (.int .i64 0), 1, 8) := by kernel_rfl
theorem addO_comm (a b : Int) : addO a b = addO b a := by
  unfold addO
  rw [Int.add_comm b a]
  cases mayB a <;> cases mayB b <;> simp
theorem sub_of_add {a b s : Int} (h : addO a b = some s) : subO s b = some a := by
  obtain ⟨h1, h2, h3, rfl⟩ := addO_some h
  simp [subO, h1, h2, h3]
theorem resO_two (o : Option Int) : ∃ p q, resO o = .tuple #[.int .i64 p, .int .i64 q] := ⟨_, _, rfl⟩
theorem ints_snoc (l : List Int) (x : Int) : ints (l ++ [x]) = ints l ++ [.int .i64 x] := by simp [ints]
theorem drop_rev (zs : List Int) (k : Nat) (hk : k < zs.length) : (zs.drop k).reverse = (zs.drop (k + 1)).reverse ++ [zs.getD k 0] := by
  rw [List.drop_eq_getElem_cons hk, List.reverse_cons, List.getD_eq_getElem?_getD, List.getElem?_eq_getElem hk]; rfl
set_option maxHeartbeats 2000000 in
/-- the loop and all behind it, from whatever world -/
theorem back_walk (a b : Int) (A : Option Addr) (n c : Nat) (zs : List Int) (w : World) (_ha : (Lit.int .i64 a).wf = true) (_hb : (Lit.int .i64 b).wf = true) (h : InRow .i64 w A n zs) :
    Calls Try.prog 4 #[.int .i64 a, .int .i64 b, .slice A n c] w fun e w' => e = .returned (.bool true) ∧ Below w.heap.size w w' := by
  obtain ⟨m, hlen, r, _⟩ := h
  have R := Lib.hid (show Reads w w.heap.size 1 A n (ints zs) from r)
  have M := Lib.hid m
  have HL := Lib.hid hlen
  unfold maxLen at m
  clear r hlen
  by_cases hl : 1024 < n
  · go_enter Try.func4, Try.ntmps4
    go_wp2_with fail
    refine (shown_any _).mono ?_
    rintro e w1 ⟨rfl, b1⟩
    go_wp2
    go_ret
    exact ⟨rfl, b1⟩
  obtain ⟨v1, v2, hv⟩ := resO_two (sumO 0 zs)
  have HV := Lib.hid hv
  have hv3 : 0 ≤ v1 ∧ v1 ≤ 2100000000000000 := by
    have e1 : v1 = valO (sumO 0 zs) := by
      have := hv
      simp only [resO] at this
      injection this with this
      simp at this
      exact this.1.symm
    rw [e1]
    cases hs : sumO 0 zs with
    | none => simp [valO]
    | some s => exact mayB_yes (sumO_may _ _ _ (by decide) hs)
  obtain ⟨hv4, hv5⟩ := hv3
  clear hv
  cases ho : addO a b with
  | none =>
    have HO := Lib.hid ho
    have HO2 := Lib.hid ((addO_comm b a).trans ho)
    clear ho
    go_enter Try.func4, Try.ntmps4
    go_wp2_with fail
    refine (shown_any _).mono ?_
    rintro e w1 ⟨rfl, B1⟩
    go_wp2_with fail
    refine (add_any a b _).mono ?_
    rintro e w2 ⟨rfl, b2⟩
    have B2 := B1.trans (b2.mono B1.size)
    clear b2 B1
    rw [HO.out]
    simp only [resO, valO, errO, Option.getD_none]
    go_wp2_with fail
    refine (add_any b a _).mono ?_
    rintro e w3 ⟨rfl, b3⟩
    have B3 := B2.trans (b3.mono B2.size)
    clear b3 B2
    rw [HO2.out]
    simp only [resO, valO, errO, Option.getD_none]
    go_wp2_with fail
    go_loopw [13, 14] (fun v i wr => ∃ k : Nat, k ≤ n ∧ i = .int .i64 ((k : Int) - 1) ∧ Hid (wr.ownsRow w.heap.size 2 1 v (n - k) (ints (zs.drop k).reverse)) ∧ Below w.heap.size w wr)
      (fun _ i _ => (intOf i + 1).toNat)
    case atStart =>
      refine ⟨n, by omega, rfl, Lib.hid ?_, B3.alloc B3.size _⟩
      have := World.ownsRow_lit (e := 2) (size := 1) (base := w.heap.size) w3 #[] 0 B3.size (by unfold maxLen; omega) (by simp)
      rw [List.drop_eq_nil_of_le (by rw [HL.out]; omega)]
      simpa [ints] using this
    case round =>
      obtain ⟨k, hk, rfl, HOwn, hb⟩ := hrel
      rename_i u13 u14
      by_cases hlt : 0 < k
      · obtain ⟨j, rfl⟩ : ∃ j, k = j + 1 := ⟨k - 1, by omega⟩
        obtain ⟨ad, rfl, hc⟩ := ints_at (R.out.below hb) (show j < n by omega)
        have hd := Lib.hid ((congrArg ints (drop_rev zs j (by rw [HL.out]; omega))).trans (ints_snoc _ _))
        obtain ⟨x, hx⟩ : ∃ x, zs.getD j 0 = x := ⟨_, rfl⟩
        rw [hx] at hd hc
        clear hx
        have hj1 : ((j + 1 : Nat) : Int) - 1 = j := by omega
        rw [hj1]
        clear hj1
        have HBl := Lib.hid hb
        clear hb
        go_wp2_with (at_builtin; refine wpList_append1g rfl (.tmp 78) (.tmp 83) 22 rfl w.heap.size 2 _ 8 Try.underlying22 back_info rfl (by omega) _ _ _ rfl (HOwn.out.alloc _) _ 1 (.int .i64 x) rfl (Blk.new _ _ _) rfl (by omega) (by have := HBl.out.size; simp; omega) ?_; intro v2 w2 o2 g2 _)
        go_roundw
        case rel =>
          refine ⟨j, by omega, by go_num, Lib.hid ?_, (HBl.out.alloc HBl.out.size _).trans (grown_below g2 (HOwn.out.alloc _) (by have := HBl.out.size; simp; omega))⟩
          rw [hd.out, show n - j = n - (j + 1) + 1 by omega]
          exact o2
        case measure => simp [intOf]
      · have hk0 : k = 0 := by omega
        subst hk0
        obtain ⟨A3, c3, rfl⟩ := own_shape HOwn.out
        have R3 := Lib.hid (show Reads wr wr.heap.size 1 A3 n (ints zs.reverse) by have h := Reads.of_own HOwn.out; simp only [Nat.sub_zero, List.drop_zero] at h; exact h)
        clear HOwn hlt hk
        go_wp2_with fail
        refine (gsum_any zs A n c w.heap.size _ (R.out.below hb) hb.size M.out).mono ?_
        rintro e w5 ⟨rfl, b5⟩
        replace R3 := Lib.hid ((R3.out.below b5).more b5.size)
        have B5 := hb.trans (b5.mono hb.size)
        clear b5 hb
        rw [HV.out]
        go_wp2_with fail
        refine (gsum_any zs.reverse A3 n c3 _ _ R3.out (Nat.le_refl _) M.out).mono ?_
        rintro e w6 ⟨rfl, b6⟩
        have B6 := B5.trans (b6.mono B5.size)
        clear b6 B5
        rw [sumO_rev, HV.out]
        go_wp2
        go_ret
        exact ⟨rfl, B6⟩
  | some s =>
    obtain ⟨hs1, hs2⟩ := mayB_yes (addO_some ho).2.2.1
    have HO := Lib.hid ho
    have HO2 := Lib.hid ((addO_comm b a).trans ho)
    have HO3 := Lib.hid (sub_of_add ho)
    clear ho
    go_enter Try.func4, Try.ntmps4
    go_wp2_with fail
    refine (shown_any _).mono ?_
    rintro e w1 ⟨rfl, B1⟩
    go_wp2_with fail
    refine (add_any a b _).mono ?_
    rintro e w2 ⟨rfl, b2⟩
    have B2 := B1.trans (b2.mono B1.size)
    clear b2 B1
    rw [HO.out]
    simp only [resO, valO, errO, Option.getD_some]
    go_wp2_with fail
    refine (add_any b a _).mono ?_
    rintro e w3 ⟨rfl, b3⟩
    have B3 := B2.trans (b3.mono B2.size)
    clear b3 B2
    rw [HO2.out]
    simp only [resO, valO, errO, Option.getD_some]
    go_wp2_with fail
    refine (sub_any s b _).mono ?_
    rintro e w4 ⟨rfl, b4⟩
    have B4 := B3.trans (b4.mono B3.size)
    clear b4 B3
    rw [HO3.out]
    simp only [resO, valO, errO, Option.getD_some]
    go_wp2_with fail
    go_loopw [13, 14] (fun v i wr => ∃ k : Nat, k ≤ n ∧ i = .int .i64 ((k : Int) - 1) ∧ Hid (wr.ownsRow w.heap.size 2 1 v (n - k) (ints (zs.drop k).reverse)) ∧ Below w.heap.size w wr)
      (fun _ i _ => (intOf i + 1).toNat)
    case atStart =>
      refine ⟨n, by omega, rfl, Lib.hid ?_, B4.alloc B4.size _⟩
      have := World.ownsRow_lit (e := 2) (size := 1) (base := w.heap.size) w4 #[] 0 B4.size (by unfold maxLen; omega) (by simp)
      rw [List.drop_eq_nil_of_le (by rw [HL.out]; omega)]
      simpa [ints] using this
    case round =>
      obtain ⟨k, hk, rfl, HOwn, hb⟩ := hrel
      rename_i u13 u14
      by_cases hlt : 0 < k
      · obtain ⟨j, rfl⟩ : ∃ j, k = j + 1 := ⟨k - 1, by omega⟩
        obtain ⟨ad, rfl, hc⟩ := ints_at (R.out.below hb) (show j < n by omega)
        have hd := Lib.hid ((congrArg ints (drop_rev zs j (by rw [HL.out]; omega))).trans (ints_snoc _ _))
        obtain ⟨x, hx⟩ : ∃ x, zs.getD j 0 = x := ⟨_, rfl⟩
        rw [hx] at hd hc
        clear hx
        have hj1 : ((j + 1 : Nat) : Int) - 1 = j := by omega
        rw [hj1]
        clear hj1
        have HBl := Lib.hid hb
        clear hb
        go_wp2_with (at_builtin; refine wpList_append1g rfl (.tmp 78) (.tmp 83) 22 rfl w.heap.size 2 _ 8 Try.underlying22 back_info rfl (by omega) _ _ _ rfl (HOwn.out.alloc _) _ 1 (.int .i64 x) rfl (Blk.new _ _ _) rfl (by omega) (by have := HBl.out.size; simp; omega) ?_; intro v2 w2 o2 g2 _)
        go_roundw
        case rel =>
          refine ⟨j, by omega, by go_num, Lib.hid ?_, (HBl.out.alloc HBl.out.size _).trans (grown_below g2 (HOwn.out.alloc _) (by have := HBl.out.size; simp; omega))⟩
          rw [hd.out, show n - j = n - (j + 1) + 1 by omega]
          exact o2
        case measure => simp [intOf]
      · have hk0 : k = 0 := by omega
        subst hk0
        obtain ⟨A3, c3, rfl⟩ := own_shape HOwn.out
        have R3 := Lib.hid (show Reads wr wr.heap.size 1 A3 n (ints zs.reverse) by have h := Reads.of_own HOwn.out; simp only [Nat.sub_zero, List.drop_zero] at h; exact h)
        clear HOwn hlt hk
        go_wp2_with fail
        refine (gsum_any zs A n c w.heap.size _ (R.out.below hb) hb.size M.out).mono ?_
        rintro e w5 ⟨rfl, b5⟩
        replace R3 := Lib.hid ((R3.out.below b5).more b5.size)
        have B5 := hb.trans (b5.mono hb.size)
        clear b5 hb
        rw [HV.out]
        go_wp2_with fail
        refine (gsum_any zs.reverse A3 n c3 _ _ R3.out (Nat.le_refl _) M.out).mono ?_
        rintro e w6 ⟨rfl, b6⟩
        have B6 := B5.trans (b6.mono B5.size)
        clear b6 B5
        rw [sumO_rev, HV.out]
        go_wp2
        go_ret
        exact ⟨rfl, B6⟩
end Go.Proofs.Ytjepngicnocjiaa
