/- ShaWords: the statement's walk. -/
import Derived.Test.YtdigdihokgiijaaDoorShaG
import Derived.Test.YtdigdihokgiijaaDoorWordA
import Derived.Test.YtdigdihokgiijaaDoorQuiet
namespace Go.Proofs.YtdigdihokgiijaaDoor
open Go.RowKit
theorem getD_app_l {α : Type} (l m : List α) (d : α) (i : Nat) (h : i < l.length) : (l ++ m).getD i d = l.getD i d := by
  rw [List.getD_eq_getElem?_getD, List.getD_eq_getElem?_getD, List.getElem?_append_left h]
theorem getD_app_r {α : Type} (l m : List α) (d : α) (i k : Nat) (h : i = l.length + k) : (l ++ m).getD i d = m.getD k d := by
  subst h
  rw [List.getD_eq_getElem?_getD, List.getD_eq_getElem?_getD, List.getElem?_append_right (by omega), Nat.add_sub_cancel_left]
theorem wordL_left (l m : List UInt8) (n i : Nat) (hl : l.length = n * 4) (h : i < n) : wordL (l ++ m) i = wordL l i := by
  unfold wordL
  rw [getD_app_l _ _ _ _ (by omega), getD_app_l _ _ _ _ (by omega), getD_app_l _ _ _ _ (by omega), getD_app_l _ _ _ _ (by omega)]
theorem wordL_right (l m : List UInt8) (n i : Nat) (hl : l.length = n * 4) (h : n ≤ i) : wordL (l ++ m) i = wordL m (i - n) := by
  unfold wordL
  rw [getD_app_r l m 0 (4 * i) (4 * (i - n)) (by omega), getD_app_r l m 0 (4 * i + 1) (4 * (i - n) + 1) (by omega), getD_app_r l m 0 (4 * i + 2) (4 * (i - n) + 2) (by omega), getD_app_r l m 0 (4 * i + 3) (4 * (i - n) + 3) (by omega)]
set_option maxHeartbeats 2000000 in
theorem words_walk (s t : ByteArray) (hs : s.size ≤ maxLen) (ht : t.size ≤ maxLen) (w : World) (hR : Roots w) :
    Calls Tryd.prog 8 #[.string s, .string t] w fun e w' => e = .returned (.bool true) ∧ Below w.heap.size w w' := by
  unfold maxLen at hs ht
  have HR := Lib.hid hR
  clear hR
  by_cases h1 : 1024 < s.size
  · go_enter Tryd.func8, Tryd.ntmps8
    go_wp2_with fail
    refine (shown_any _ HR.out).mono ?_
    rintro e w1 ⟨rfl, b1⟩
    go_wp2
    go_ret
    exact ⟨rfl, b1⟩
  by_cases h2 : 1024 < t.size
  · go_enter Tryd.func8, Tryd.ntmps8
    go_wp2_with fail
    refine (shown_any _ HR.out).mono ?_
    rintro e w1 ⟨rfl, b1⟩
    go_wp2
    go_ret
    exact ⟨rfl, b1⟩
  go_enter Tryd.func8, Tryd.ntmps8
  go_wp2_with fail
  refine (shown_any _ HR.out).mono ?_
  rintro e w1 ⟨rfl, B1⟩
  go_wp2_with fail
  obtain ⟨ns, hns⟩ : ∃ ns, s.size / 4 = ns := ⟨_, rfl⟩
  have e1 : (s.size : Int) / 4 = ns := by omega
  obtain ⟨p, hp⟩ : ∃ p, s.extract 0 (s.size / 4 * 4) = p := ⟨_, rfl⟩
  have hps : p.size = ns * 4 := by rw [← hp, ByteArray.size_extract]; omega
  rw [e1, hp]
  have HPS := Lib.hid hps
  have hns2 : ns ≤ 256 := by omega
  have HP := Lib.hid (show s.extract 0 (ns * 4) = p by rw [← hp, hns])
  have n0 : (0 : Int) ≤ (ns : Int) * 4 := by omega
  have n1 : (ns : Int) * 4 ≤ s.size := by omega
  clear hns e1 hp hps
  refine (words_any p (by have := HPS.out; omega) _).mono ?_
  rintro e w2 ⟨rfl, k2, b2⟩
  have e2 : p.size / 4 = ns := by have := HPS.out; omega
  rw [e2] at k2
  rw [e2]
  clear e2
  have B2 := B1.trans (b2.mono B1.size)
  have KA := Lib.hid k2
  obtain ⟨ga, hga⟩ : ∃ g, w1.heap.size = g := ⟨_, rfl⟩
  rw [hga] at KA
  rw [hga]
  clear hga k2 b2 B1
  go_wp2_with fail
  obtain ⟨nt, hnt⟩ : ∃ n, t.size / 4 = n := ⟨_, rfl⟩
  have e3 : (t.size : Int) / 4 = nt := by omega
  have HNT := Lib.hid hnt
  have hnt2 : nt ≤ 256 := by omega
  refine (words_any t (by omega) _).mono ?_
  rintro e w3 ⟨rfl, k3, b3⟩
  rw [hnt] at k3
  rw [hnt]
  clear hnt
  have B3 := B2.trans (b3.mono B2.size)
  have KB := Lib.hid k3
  replace KA := Lib.hid (below_blk b3 KA.out KA.out.lt)
  obtain ⟨gb, hgb⟩ : ∃ g, w2.heap.size = g := ⟨_, rfl⟩
  rw [hgb] at KB
  rw [hgb]
  clear hgb k3 b3 B2
  go_wp2_with fail
  have n2 : ((ns : Int) * 4).toNat = ns * 4 := by omega
  rw [HP.out]
  obtain ⟨q, hq⟩ : ∃ q, p ++ t = q := ⟨_, rfl⟩
  rw [hq]
  have hql : q.data.toList = p.data.toList ++ t.data.toList := by rw [← hq]; simp
  have hqs : q.size = ns * 4 + t.size := by rw [← hq, ByteArray.size_append, HPS.out]
  have HQL := Lib.hid hql
  have HQS := Lib.hid hqs
  obtain ⟨nc, hnc⟩ : ∃ nc, ns + nt = nc := ⟨_, rfl⟩
  have hq4 : q.size / 4 = nc := by have := HNT.out; omega
  have HNC := Lib.hid hnc
  have n5 : nc ≤ 512 := by omega
  have HQ4 := Lib.hid hq4
  clear hq hql hq4 hnc
  refine (words_any q (by omega) _).mono ?_
  clear hqs
  rintro e w4 ⟨rfl, k4, b4⟩
  rw [HQ4.out] at k4
  rw [HQ4.out]
  have B4 := B3.trans (b4.mono B3.size)
  have KC := Lib.hid k4
  replace KA := Lib.hid (below_blk b4 KA.out KA.out.lt)
  replace KB := Lib.hid (below_blk b4 KB.out KB.out.lt)
  obtain ⟨gc, hgc⟩ : ∃ g, w3.heap.size = g := ⟨_, rfl⟩
  rw [hgc] at KC
  rw [hgc]
  clear hgc k4 b4 B3
  have t1 : (ns : Int) * 4 / 4 = ns := by omega
  have t2 : ((nc : Int) != (ns : Int) + nt) = false := by rw [bne_eq_false_iff_eq]; have := HNC.out; omega
  have HB4 := Lib.hid B4
  clear B4
  go_wp2_with fail
  go_loopw [9] (fun i wr => ∃ k : Nat, k ≤ nc ∧ i = .int .i64 k ∧ Hid (Blk wr ga 31 (uarr ns (wordL p.data.toList)) ∧ Blk wr gb 31 (uarr nt (wordL t.data.toList)) ∧ Blk wr gc 31 (uarr nc (wordL q.data.toList)) ∧ Below w.heap.size w wr)) (fun i _ => nc - (intOf i).toNat)
  case atStart => exact ⟨0, by omega, rfl, Lib.hid ⟨KA.out, KB.out, KC.out, HB4.out⟩⟩
  case round =>
    clear KA KB KC HB4
    obtain ⟨k, hk, rfl, HK⟩ := hrel
    by_cases hlt : k < nc
    · have cC : wr.cell? ⟨gc, k, none⟩ = some (.int .u32 (wv (wordL q.data.toList k))) := by rw [HK.out.2.2.1.cell k, uarr_get _ _ _ hlt]
      have d7 : (0 : Int) ≤ k := by omega
      have d8 : (k : Int) < nc := by omega
      by_cases hn : k < ns
      · have cA : wr.cell? ⟨ga, k, none⟩ = some (.int .u32 (wv (wordL q.data.toList k))) := by
          rw [HK.out.1.cell k, uarr_get _ _ _ hn, HQL.out, wordL_left _ _ ns k (by have := HPS.out; rw [← this]; exact Array.length_toList) hn]
        obtain ⟨x, hx⟩ : ∃ x, wv (wordL q.data.toList k) = x := ⟨_, rfl⟩
        rw [hx] at cC cA
        clear hx
        have d1 : decide (k < ns) = true := by simp; omega
        have d2 : decide (ns ≤ k) = false := by simp; omega
        have d5 : (k : Int) < ns := by omega
        go_wp2_with fail
        go_quiet (fail)
        go_wp2_with fail
        go_roundw
        case rel => exact ⟨k + 1, by omega, by go_num, Lib.hid ⟨HK.out.1.drewN _, HK.out.2.1.drewN _, HK.out.2.2.1.drewN _, below_drewN HK.out.2.2.2 _⟩⟩
        case measure => simp [intOf]; omega
      · have cB : wr.cell? ⟨gb, k - ns, none⟩ = some (.int .u32 (wv (wordL q.data.toList k))) := by
          rw [HK.out.2.1.cell, uarr_get _ _ _ (by have := HNC.out; omega), HQL.out, wordL_right _ _ ns k (by have := HPS.out; rw [← this]; exact Array.length_toList) (by omega)]
        obtain ⟨x, hx⟩ : ∃ x, wv (wordL q.data.toList k) = x := ⟨_, rfl⟩
        rw [hx] at cC cB
        clear hx
        have d1 : decide (k < ns) = false := by simp; omega
        have d2 : decide (ns ≤ k) = true := by simp; omega
        have d9 : ns ≤ k := by omega
        have d3 : IntKind.i64.wrap ((k : Int) - ns) = (k : Int) - ns := IntWalk.i64_in _ (by omega)
        have d4 : (0 : Int) ≤ (k : Int) - ns := by omega
        have d5 : (k : Int) - ns < nt := by have := HNC.out; omega
        have d6 : ((k : Int) - ns).toNat = k - ns := by omega
        go_wp2_with fail
        go_quiet (fail)
        go_wp2_with fail
        go_roundw
        case rel => exact ⟨k + 1, by omega, by go_num, Lib.hid ⟨HK.out.1.drewN _, HK.out.2.1.drewN _, HK.out.2.2.1.drewN _, below_drewN HK.out.2.2.2 _⟩⟩
        case measure => simp [intOf]; omega
    · go_wp2
      go_ret
      exact ⟨rfl, HK.out.2.2.2⟩
end Go.Proofs.YtdigdihokgiijaaDoor
