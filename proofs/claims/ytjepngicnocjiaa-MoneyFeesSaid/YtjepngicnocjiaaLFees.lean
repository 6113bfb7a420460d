/- MoneyFees: the statement's walk. -/
import Derived.Test.YtjepngicnocjiaaMonS
import Derived.Test.YtjepngicnocjiaaMonQ
import Derived.Test.YtjepngicnocjiaaRowArg
import Derived.Test.YtjepngicnocjiaaApp2
namespace Go.Proofs.Ytjepngicnocjiaa
open Go.RowKit
theorem fees_info : (Try.prog.info? 2).map (fun i => (i.zero, i.size, i.bytes)) = some (some (.int .i64 0), 1, 8) := by kernel_rfl
/-- small amounts: each from nought to the greatest number of 32 bits -/
def Small (l : List Int) : Prop := ∀ x ∈ l, 0 ≤ x ∧ x ≤ 4294967295
theorem small_may {l : List Int} (h : Small l) : l.all mayB = true := by
  rw [List.all_eq_true]
  intro x hx
  have := h x hx
  exact mayB_mk ⟨this.1, by omega⟩
theorem small_sum : ∀ {l : List Int}, Small l → 0 ≤ l.sum ∧ l.sum ≤ l.length * 4294967295
  | [], _ => by simp
  | a :: l, h => by
    have h1 := h a (by simp)
    have h2 := small_sum (l := l) (fun x hx => h x (by simp [hx]))
    simp only [List.sum_cons, List.length_cons]
    omega
theorem small_take {l : List Int} (h : Small l) (k : Nat) : Small (l.take k) := fun x hx => h x (List.mem_of_mem_take hx)
theorem small_take_sum {l : List Int} (h : Small l) (k : Nat) (hk : k ≤ 200) : 0 ≤ (l.take k).sum ∧ (l.take k).sum ≤ 858993459000 := by
  have h1 := small_sum (small_take h k)
  have h2 : (l.take k).length ≤ k := by rw [List.length_take]; omega
  omega
theorem small_O {l : List Int} (h : Small l) (hl : l.length ≤ 200) : sumO 0 l = some l.sum := by
  have h1 := small_sum h
  rw [sumO_eq l 0 (by decide), small_may h, show mayB (0 + l.sum) = true from mayB_mk (by omega)]
  simp
theorem small_fee {za zb : List Int} (ha : Small za) (hb : Small zb) (la : za.length ≤ 200) (lb : zb.length ≤ 200) (bal : Int) (h1 : -2147483648 ≤ bal) (h2 : bal ≤ 2147483647) :
    feeO za zb bal = if 0 ≤ bal + za.sum - zb.sum then some (bal + za.sum - zb.sum) else none := by
  have ga := small_sum ha
  have gb := small_sum hb
  by_cases hge : 0 ≤ bal
  · rw [feeO_ge za zb _ _ bal (small_O ha la) (small_O hb lb) hge]
    have e1 : addO za.sum bal = some (za.sum + bal) := by
      simp [addO, show mayB za.sum = true from mayB_mk (by omega), show mayB bal = true from mayB_mk (by omega), show mayB (za.sum + bal) = true from mayB_mk (by omega)]
    rw [e1]
    simp only [Option.bind_some, subO, show mayB (za.sum + bal) = true from mayB_mk (by omega), show mayB zb.sum = true from mayB_mk (by omega), Bool.true_and]
    by_cases hs : 0 ≤ bal + za.sum - zb.sum
    · rw [if_pos hs, show mayB (za.sum + bal - zb.sum) = true from mayB_mk (by omega), if_pos rfl, show za.sum + bal - zb.sum = bal + za.sum - zb.sum by omega]
    · rw [if_neg hs, show mayB (za.sum + bal - zb.sum) = false from mayB_mk_no (by omega)]; rfl
  · rw [feeO_lt za zb _ _ bal (small_O ha la) (small_O hb lb) hge]
    have e1 : addO zb.sum (-bal) = some (zb.sum + -bal) := by
      simp [addO, show mayB zb.sum = true from mayB_mk (by omega), show mayB (-bal) = true from mayB_mk (by omega), show mayB (zb.sum + -bal) = true from mayB_mk (by omega)]
    rw [e1]
    simp only [Option.bind_some, subO, show mayB (zb.sum + -bal) = true from mayB_mk (by omega), show mayB za.sum = true from mayB_mk (by omega), Bool.true_and]
    by_cases hs : 0 ≤ bal + za.sum - zb.sum
    · rw [if_pos hs, show mayB (za.sum - (zb.sum + -bal)) = true from mayB_mk (by omega), if_pos rfl, show za.sum - (zb.sum + -bal) = bal + za.sum - zb.sum by omega]
    · rw [if_neg hs, show mayB (za.sum - (zb.sum + -bal)) = false from mayB_mk_no (by omega)]; rfl
theorem fints_snoc (l : List Int) (x : Int) : ints (l ++ [x]) = ints l ++ [.int .i64 x] := by simp [ints]
theorem u32_at {w : World} {B n : Nat} {A : Option Addr} {zs : List Int} {k : Nat} (h : Reads w B 1 A n (zs.map (.int .u32))) (hk : k < n) :
    ∃ ad, A = some ad ∧ w.cell? (ad.add k) = some (.int .u32 (zs.getD k 0)) := by
  obtain ⟨ad, u, e, _, hu, hc⟩ := h.at_ hk
  refine ⟨ad, e, ?_⟩
  have hl : k < zs.length := by have := h.1; rw [List.length_map] at this; omega
  rw [hc]
  rw [List.getElem?_map, List.getElem?_eq_getElem hl] at hu
  simp only [Option.map_some, Option.some.injEq] at hu
  rw [← hu, List.getD_eq_getElem?_getD, List.getElem?_eq_getElem hl]; rfl
theorem u32_again {w : World} {B n : Nat} {ad : Addr} {zs : List Int} {k : Nat} {x : Int} (h : Reads w B 1 (some ad) n (zs.map (.int .u32))) (hk : k < n) (hx : zs.getD k 0 = x) : w.cell? (ad.add k) = some (.int .u32 x) := by
  obtain ⟨ad', e, hc⟩ := u32_at h hk
  injection e with e
  subst e
  rw [hc, hx]
theorem wf_small {zs : List Int} (h : ∀ z ∈ zs, (Lit.int .u32 z).wf = true) : Small zs := fun x hx => by
  have := h x hx
  simp [Lit.wf, IntKind.min, IntKind.max, IntKind.signed, IntKind.bits] at this
  omega
theorem getD_small {zs : List Int} (h : Small zs) (k : Nat) (hk : k < zs.length) : 0 ≤ zs.getD k 0 ∧ zs.getD k 0 ≤ 4294967295 := by
  rw [List.getD_eq_getElem?_getD, List.getElem?_eq_getElem hk]
  exact h _ (List.getElem_mem hk)
theorem take_sum (zs : List Int) (k : Nat) (hk : k < zs.length) : (zs.take (k + 1)).sum = (zs.take k).sum + zs.getD k 0 := by
  rw [take_snocD zs k hk]; simp
set_option maxHeartbeats 2000000 in
theorem fees_walk (A1 : Option Addr) (n1 c1 : Nat) (z1 : List Int) (A2 : Option Addr) (n2 c2 : Nat) (z2 : List Int) (bal : Int) (w : World) (h1 : InRow .u32 w A1 n1 z1) (h2 : InRow .u32 w A2 n2 z2) (h3 : (Lit.int .i32 bal).wf = true) :
    Calls Try.prog 5 #[.slice A1 n1 c1, .slice A2 n2 c2, .int .i32 bal] w fun e w' => e = .returned (.bool true) ∧ Below w.heap.size w w' := by
  have hbal : -2147483648 ≤ bal ∧ bal ≤ 2147483647 := by simp [Lit.wf, IntKind.min, IntKind.max, IntKind.signed, IntKind.bits] at h3; omega
  obtain ⟨hb1, hb2⟩ := hbal
  obtain ⟨m1, l1, r1, f1⟩ := h1
  obtain ⟨m2, l2, r2, f2⟩ := h2
  have R1 := Lib.hid r1
  have R2 := Lib.hid r2
  have M1 := Lib.hid m1
  have M2 := Lib.hid m2
  have L1 := Lib.hid l1
  have L2 := Lib.hid l2
  have F1 := Lib.hid (wf_small f1)
  have F2 := Lib.hid (wf_small f2)
  unfold maxLen at m1 m2
  clear r1 r2 l1 l2 f1 f2 h3
  by_cases hl : 200 < n1
  · go_enter Try.func5, Try.ntmps5
    go_wp2_with fail
    refine (shown_any _).mono ?_
    rintro e w1 ⟨rfl, b1⟩
    go_wp2
    go_ret
    exact ⟨rfl, b1⟩
  by_cases hm : 200 < n2
  · go_enter Try.func5, Try.ntmps5
    go_wp2_with fail
    refine (shown_any _).mono ?_
    rintro e w1 ⟨rfl, b1⟩
    go_wp2
    go_ret
    exact ⟨rfl, b1⟩
  have k1 : n1 ≤ 200 := by omega
  have k2_ : n2 ≤ 200 := by omega
  go_enter Try.func5, Try.ntmps5
  go_wp2_with fail
  refine (shown_any _).mono ?_
  rintro e w1 ⟨rfl, B1⟩
  go_wp2_with fail
  clear hl hm
  go_loopw [7, 9, 10] (fun v s i wr => ∃ k : Nat, k ≤ n1 ∧ i = .int .i64 k ∧ s = .int .i64 (bal + (z1.take k).sum) ∧ Hid (wr.ownsRow w.heap.size 2 1 v k (ints (z1.take k)) ∧ Blk wr (w1.heap.size + 1) 2 #[] ∧ v.ownBlock ≠ some (w1.heap.size + 1)) ∧ Below w.heap.size w wr)
    (fun _ _ i _ => n1 - (intOf i).toNat)
  case atStart =>
    refine ⟨0, by omega, rfl, by simp, Lib.hid ⟨?_, blk_new _ _ (by simp), by simp [Value.ownBlock]⟩, (B1.alloc B1.size _).alloc (by have := B1.size; simp; omega) _⟩
    have := World.ownsRow_lit (e := 2) (size := 1) (base := w.heap.size) w1 #[] 0 B1.size (by unfold maxLen; omega) (by simp)
    simpa [ints] using this.alloc _
  case round =>
    obtain ⟨k, hk, rfl, rfl, HO, hb⟩ := hrel
    have hs := small_take_sum F1.out k (by omega)
    by_cases hlt : k < n1
    · obtain ⟨ad, rfl, hc⟩ := u32_at (R1.out.below hb) hlt
      have hx1 := getD_small F1.out k (by rw [L1.out]; exact hlt)
      have hts := Lib.hid (take_sum z1 k (by rw [L1.out]; exact hlt))
      have htk := Lib.hid ((congrArg ints (take_snocD z1 k (by rw [L1.out]; exact hlt))).trans (fints_snoc _ _))
      obtain ⟨x, hx⟩ : ∃ x, z1.getD k 0 = x := ⟨_, rfl⟩
      rw [hx] at hts htk hc hx1
      have HX := Lib.hid hx
      clear hx
      obtain ⟨x1, x2⟩ := hx1
      obtain ⟨s1, s2⟩ := hs
      obtain ⟨t, ht⟩ : ∃ t, (z1.take k).sum = t := ⟨_, rfl⟩
      rw [ht] at hts s1 s2
      rw [ht]
      clear ht
      have HB := Lib.hid hb
      clear hb
      go_wp2_with (at_builtin; refine wpList_append1g rfl (.tmp 37) (.tmp 43) 22 rfl w.heap.size 2 _ 8 Try.underlying22 fees_info rfl (by omega) u7 k _ rfl (HO.out.1.alloc _) wr.heap.size 1 (.int .i64 x) rfl (Blk.new wr _ _) rfl (by omega) (by have := HB.out.size; simp; omega) ?_; intro v2 w2 o2 g2 d2; have B2 : Below w.heap.size w w2 := (HB.out.alloc HB.out.size _).trans (grown_below g2 (HO.out.1.alloc _) (by have := HB.out.size; simp; omega)); have hc2 := u32_again (R1.out.below B2) hlt HX.out)
      go_roundw
      case rel =>
        refine ⟨k + 1, by omega, by go_num, by rw [hts.out, Int.add_assoc], Lib.hid ⟨?_, (HO.out.2.1.alloc _).grown g2 (fun e => HO.out.2.2 e.symm), ?_⟩, B2⟩
        · rw [htk.out]; exact o2
        · rcases d2 with d2 | d2
          · rw [d2]; exact HO.out.2.2
          · rw [d2]
            have := HO.out.2.1.lt
            simp
            omega
      case measure => simp [intOf]; omega
    · have hkn : k = n1 := by omega
      subst hkn
      obtain ⟨s1, s2⟩ := hs
      have e1 : z1.take k = z1 := List.take_of_length_le (by rw [L1.out]; omega)
      rw [e1] at HO s1 s2
      rw [e1]
      clear e1 hlt hk
      obtain ⟨S1, hS1⟩ : ∃ t, z1.sum = t := ⟨_, rfl⟩
      rw [hS1] at s1 s2
      rw [hS1]
      have HS1 := Lib.hid hS1
      clear hS1
      have HB := Lib.hid hb
      have K1 := Lib.hid B1
      clear hb B1
      go_wp2_with fail
      go_loopw [8, 9, 11] (fun v s i wq => ∃ k2 : Nat, k2 ≤ n2 ∧ i = .int .i64 k2 ∧ s = .int .i64 (bal + S1 - (z2.take k2).sum) ∧ Hid (wq.ownsRow w.heap.size 2 1 u7 k (ints z1) ∧ wq.ownsRow w.heap.size 2 1 v k2 (ints (z2.take k2)) ∧ (u7.ownBlock = none ∨ u7.ownBlock ≠ v.ownBlock)) ∧ Below w.heap.size w wq)
        (fun _ _ i _ => n2 - (intOf i).toNat)
      case atStart =>
        refine ⟨0, by omega, rfl, by simp, Lib.hid ⟨HO.out.1, ?_, .inr HO.out.2.2⟩, HB.out⟩
        refine ⟨by simp [ints], .inr ⟨w1.heap.size + 1, 0, #[], rfl, by have := K1.out.size; omega, HO.out.2.1, by omega, by simp, by simp, by simp [ints]⟩⟩
      case round =>
        obtain ⟨k2, hk2, rfl, rfl, HQ, hq⟩ := hrel
        have hs := small_take_sum F2.out k2 (by omega)
        by_cases hlt : k2 < n2
        · obtain ⟨ad, rfl, hc⟩ := u32_at (R2.out.below hq) hlt
          have hx1 := getD_small F2.out k2 (by rw [L2.out]; exact hlt)
          have hts := Lib.hid (take_sum z2 k2 (by rw [L2.out]; exact hlt))
          have htk := Lib.hid ((congrArg ints (take_snocD z2 k2 (by rw [L2.out]; exact hlt))).trans (fints_snoc _ _))
          obtain ⟨x, hx⟩ : ∃ x, z2.getD k2 0 = x := ⟨_, rfl⟩
          rw [hx] at hts htk hc hx1
          have HX := Lib.hid hx
          clear hx
          obtain ⟨x1, x2⟩ := hx1
          obtain ⟨s3, s4⟩ := hs
          obtain ⟨t, ht⟩ : ∃ t, (z2.take k2).sum = t := ⟨_, rfl⟩
          rw [ht] at hts s3 s4
          rw [ht]
          clear ht
          have HC := Lib.hid hq
          clear hq
          go_wp2_with (at_builtin; refine wpList_append1g rfl (.tmp 58) (.tmp 64) 22 rfl w.heap.size 2 _ 8 Try.underlying22 fees_info rfl (by omega) u8 k2 _ rfl (HQ.out.2.1.alloc _) wr.heap.size 1 (.int .i64 x) rfl (Blk.new wr _ _) rfl (by omega) (by have := HC.out.size; simp; omega) ?_; intro v2 w2 o2 g2 d2; have B2 : Below w.heap.size w w2 := (HC.out.alloc HC.out.size _).trans (grown_below g2 (HQ.out.2.1.alloc _) (by have := HC.out.size; simp; omega)); have hc2 := u32_again (R2.out.below B2) hlt HX.out)
          go_roundw
          case rel =>
            refine ⟨k2 + 1, by omega, by go_num, by rw [hts.out]; congr 1; omega, Lib.hid ⟨(HQ.out.1.alloc _).kept g2 HQ.out.2.2, ?_, ?_⟩, B2⟩
            · rw [htk.out]; exact o2
            · rcases HQ.out.2.2 with h0 | h0
              · exact .inl h0
              rcases d2 with d2 | d2
              · rw [d2]; exact .inr h0
              · refine .inr (fun e => ?_)
                rw [d2] at e
                have := (HQ.out.1.lt _ e).2
                simp at this
                omega
          case measure => simp [intOf]; omega
        · have hkn : k2 = n2 := by omega
          subst hkn
          obtain ⟨s3, s4⟩ := hs
          have e1 : z2.take k2 = z2 := List.take_of_length_le (by rw [L2.out]; omega)
          rw [e1] at HQ s3 s4
          rw [e1]
          clear e1 hlt hk2
          obtain ⟨S2, hS2⟩ : ∃ t, z2.sum = t := ⟨_, rfl⟩
          rw [hS2] at s3 s4
          rw [hS2]
          have HS2 := Lib.hid hS2
          clear hS2
          have HC := Lib.hid hq
          clear hq
          obtain ⟨A7, c7, rfl⟩ := own_shape HQ.out.1
          obtain ⟨A8, c8, rfl⟩ := own_shape HQ.out.2.1
          have RA := Lib.hid (show Reads wr wr.heap.size 1 A7 k (ints z1) from Reads.of_own HQ.out.1)
          have RB := Lib.hid (show Reads wr wr.heap.size 1 A8 k2 (ints z2) from Reads.of_own HQ.out.2.1)
          clear HQ
          have HF := Lib.hid (show feeO z1 z2 bal = if 0 ≤ bal + S1 - S2 then some (bal + S1 - S2) else none by
            rw [small_fee F1.out F2.out (by rw [L1.out]; exact k1) (by rw [L2.out]; exact k2_) bal hb1 hb2, HS1.out, HS2.out])
          by_cases hpos : 0 ≤ bal + S1 - S2
          · have HG := Lib.hid (HF.out.trans (if_pos hpos))
            go_wp2_with fail
            refine (fee_any z1 z2 A7 A8 k c7 k2 c8 wr.heap.size bal _ RA.out RB.out (Nat.le_refl _) M1.out M2.out (by omega)).mono ?_
            rintro e w9 ⟨rfl, b9⟩
            have B9 := HC.out.trans (b9.mono HC.out.size)
            clear b9
            rw [HG.out]
            simp only [resO, valO, errO, Option.getD_some]
            go_wp2
            go_ret
            exact ⟨rfl, B9⟩
          · have HG := Lib.hid (HF.out.trans (if_neg hpos))
            have hneg : decide (S2 ≤ bal + S1) = false := by simp; omega
            clear hpos
            go_wp2_with fail
            refine (fee_any z1 z2 A7 A8 k c7 k2 c8 wr.heap.size bal _ RA.out RB.out (Nat.le_refl _) M1.out M2.out (by omega)).mono ?_
            rintro e w9 ⟨rfl, b9⟩
            have B9 := HC.out.trans (b9.mono HC.out.size)
            clear b9
            rw [HG.out]
            simp only [resO, valO, errO, Option.getD_none]
            go_wp2
            go_ret
            exact ⟨rfl, B9⟩
end Go.Proofs.Ytjepngicnocjiaa
