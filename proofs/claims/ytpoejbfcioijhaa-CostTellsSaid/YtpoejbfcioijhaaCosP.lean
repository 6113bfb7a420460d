/- Costs: the project's iterator of sums, and what is asked of weights. -/
import Derived.Test.YtpoejbfcioijhaaCosB
import Derived.RangeFuncNested
import Derived.RangeFuncBound
import Derived.RangeFuncCalls
import Derived.RangeFuncLeaves
import Derived.Shelf.Abstract
import Derived.Shelf.RegionOpen
import Derived.WalkKit
import Derived.OwnWalkIn
import Derived.TacticsInMore
import Derived.LoopNIn
import Derived.LoopIn
namespace Go.Proofs.Ytpoejbfcioijhaa
open Go.RowKit Go.Shelf
attribute [local go_sem] Oper.semAt_some
def mayB (l : List (IntV .i64)) : Bool := l.all okW && decide (l.length ≤ 1000)
theorem mayB_bad {l : List (IntV .i64)} {x : IntV .i64} (hx : x ∈ l) (h : okW x = false) : mayB l = false := by
  have : l.all okW = false := by rw [List.all_eq_false]; exact ⟨x, hx, by simp [h]⟩
  unfold mayB
  rw [this]
  rfl
theorem sumW_may (l : List (IntV .i64)) : sumW l = if mayB l then some (sumI l) else none := rfl
theorem take_okW {l : List (IntV .i64)} {j : Nat} (h : (l.take j).all okW = true) (hj : j < l.length) (hx : okW l[j] = true) : (l.take (j + 1)).all okW = true := by
  rw [List.take_succ_eq_append_getElem hj, List.all_append, h]
  simp [hx]
set_option maxRecDepth 20000 in
theorem pMay (A : Option Addr) (c : Nat) (l : List (IntV .i64)) (w : World) (h : RowIn (enc1 .i64) 1 w w.heap.size A c l) (hn : l.length ≤ 1000000) :
    Calls Try.prog 19 #[.slice A l.length c] w fun e w' => e = .returned (.bool (mayB l)) ∧ Below w.heap.size w w' := by
  have IN := Lib.hid h
  have HB := Lib.hid (Below.refl w.heap.size w)
  have HS := Lib.hid (show (l.take 0).all okW = true from rfl)
  have hm0 : l.length ≤ 9223372036854775807 := by omega
  clear h hn
  by_cases hL : 1000 < l.length
  · have hd3 : decide ((1000 : Int) < (l.length : Int)) = true := by simp; omega
    have HR := Lib.hid (show mayB l = false by unfold mayB; rw [decide_eq_false (by omega)]; simp)
    clear hL
    go_enter Try.func19, Try.ntmps19
    go_wp2_with fail
    go_ret
    exact ⟨by rw [HR.out]; rfl, HB.out⟩
  · have hd3 : decide ((1000 : Int) < (l.length : Int)) = false := by simp; omega
    have HLL := Lib.hid (show l.length ≤ 1000 by omega)
    clear hL
    go_enter Try.func19, Try.ntmps19
    go_wp2_with fail
    go_loopw [10] (fun si wr => ∃ j : Nat, si = .int .i64 j ∧ j ≤ l.length ∧ Hid ((l.take j).all okW = true) ∧ Hid (Below w.heap.size w wr)) (fun si _ => l.length - (intOf si).toNat)
    case atStart => exact ⟨0, rfl, Nat.zero_le _, HS, HB⟩
    case round =>
      clear HS HB hd3
      obtain ⟨j, rfl, hj, HS, HB⟩ := hrel
      by_cases hlt : j < l.length
      · have hd : decide ((j : Int) < (l.length : Int)) = true := by simp; omega
        have hi0 : (0 : Int) ≤ (j : Int) := by omega
        have hi1 : (j : Int) < (l.length : Int) := by omega
        obtain ⟨g, o, hA, hg, hc⟩ := (IN.out.below HB.out).at (enc1_len _) hlt
        obtain ⟨x, hx⟩ : ∃ x, l[j]'hlt = x := ⟨_, rfl⟩
        rw [hx] at hc
        have k1 : wr.cell? ⟨g, o + j, none⟩ = some (.int .i64 x.1) := by have := hc.head; simpa using this
        have HMEM := Lib.hid (show x ∈ l from hx ▸ List.getElem_mem hlt)
        have HNX := Lib.hid (show okW x = true → (l.take (j + 1)).all okW = true from fun hk => take_okW HS.out hlt (by rw [hx]; exact hk))
        have HLT := Lib.hid hlt
        subst hA
        clear hc hx hg
        obtain ⟨q1, hq1⟩ : ∃ q, decide (x.1 < 1) = q := ⟨_, rfl⟩
        obtain ⟨q2, hq2⟩ : ∃ q, decide (1099511627776 < x.1) = q := ⟨_, rfl⟩
        have HQ := Lib.hid (show okW x = (!q1 && !q2) by unfold okW; rw [hq1, hq2])
        cases q1 with
        | true =>
          have HR := Lib.hid (show mayB l = false from mayB_bad HMEM.out (by rw [HQ.out]; rfl))
          go_wp2_with fail
          go_ret
          exact ⟨by rw [HR.out]; rfl, HB.out⟩
        | false =>
          cases q2 with
          | true =>
            have HR := Lib.hid (show mayB l = false from mayB_bad HMEM.out (by rw [HQ.out]; rfl))
            go_wp2_with fail
            go_ret
            exact ⟨by rw [HR.out]; rfl, HB.out⟩
          | false =>
            have HS2 := Lib.hid (HNX.out (show okW x = true by rw [HQ.out]; rfl))
            go_wp2_with fail
            go_roundw
            case rel => exact ⟨j + 1, by go_num, HLT.out, HS2, HB⟩
            case measure => have := HLT.out; simp [intOf]; omega
      · have hd : decide ((j : Int) < (l.length : Int)) = false := by simp; omega
        obtain rfl : j = l.length := by omega
        have HR := Lib.hid (show mayB l = true by
          have := HS.out
          rw [List.take_length] at this
          unfold mayB
          rw [this, decide_eq_true HLL.out]
          rfl)
        go_wp2_with fail
        go_ret
        exact ⟨by rw [HR.out]; rfl, HB.out⟩
theorem fin_take_succ (n k : Nat) (hk : k < n) : (List.finRange n).take (k + 1) = (List.finRange n).take k ++ [⟨k, hk⟩] := by
  rw [List.take_succ_eq_append_getElem (by rw [List.length_finRange]; exact hk)]
  congr 2
  simp
theorem sumI_take (l : List (IntV .i64)) (k : Nat) (hk : k < l.length) : sumI (l.take (k + 1)) = sumI (l.take k) + l[k].1 := by
  rw [List.take_succ_eq_append_getElem hk, sumI_snoc]
theorem sumI_take_rng {l : List (IntV .i64)} (h : mayB l = true) (k : Nat) : 0 ≤ sumI (l.take k) ∧ sumI (l.take k) ≤ 1099511627776000 := by
  unfold mayB at h
  simp only [Bool.and_eq_true, decide_eq_true_eq] at h
  have h1 : (l.take k).all okW = true := by
    rw [List.all_eq_true]
    intro x hx
    exact List.all_eq_true.1 h.1 x (List.mem_of_mem_take hx)
  have h2 := sumI_rng _ h1
  have h3 : (l.take k).length ≤ 1000 := by rw [List.length_take]; omega
  omega
set_option maxRecDepth 100000 in
set_option maxHeartbeats 2000000 in
theorem sums_in (F : Fence) (n : Nat) (hf : F.fn 20) (hro : F.round = none) (A : Option Addr) (m c : Nat) (w : World) :
    CallsIn F n Try.prog 20 #[.slice A m c] w fun e w' => e = .returned (.func (.func 25) #[] #[.pointer (some ⟨w.heap.size, 0, none⟩)]) ∧ w' = w.alloc (.cells #[.slice A m c] 30) := by
  refine callsIn_of_wp Try.func20 rfl hf ?_ hro
  simp only [Try.ntmps20, List.size_toArray, List.length_cons, List.length_nil, Nat.reduceAdd, Nat.reduceSub, Array.replicate_succ, Array.replicate_zero, List.push_toArray, List.append_toArray, List.nil_append, List.cons_append]
  gi_wp2
  go_ret
  exact ⟨rfl, rfl⟩
/-- what the iterator tells at a place -/
def sumsE (l : List (IntV .i64)) (x : Fin l.length) : Array Value := #[.int .i64 (x.1 : Int), .int .i64 (sumI (l.take (x.1 + 1)))]
set_option maxRecDepth 100000 in
set_option maxHeartbeats 4000000 in
theorem sums1_some_in (g o : Nat) (F : Fence) (n : Nat) (hf : F.fn 25) (hro : F.round = none) (hn : 1 ≤ n) (b Bs n₀ : Nat) (A : Option Addr) (c : Nat) (l : List (IntV .i64)) (J Jx : List (Fin l.length) → World → Prop) (W : World)
    (hn0 : n₀ ≤ W.heap.size) (hM : mayB l = true)
    (hY : ∀ pre x W1, J pre W1 → pre.length < l.length → YieldAt F (n - 1) Try.prog b (sumsE l x) W1 fun e W' =>
      (e = .returned (.bool true) ∧ J (pre ++ [x]) W' ∧ Below n₀ W1 W') ∨ (e = .returned (.bool false) ∧ Jx (pre ++ [x]) W'))
    (hBs : Blk W Bs 30 #[.slice A l.length c]) (hI : RowIn (enc1 .i64) 1 W n₀ A c l) (hA : A = some ⟨g, o, none⟩) (h0 : J [] W) :
    CallsIn F n Try.prog 25 #[.func (.yield b) #[] #[], .pointer (some ⟨Bs, 0, none⟩)] W fun e W' => (∃ v, e = .returned v) ∧
      ((∃ ys, ys = List.finRange l.length ∧ J ys W') ∨ (∃ pre, (∃ k, k ≤ l.length ∧ pre = (List.finRange l.length).take k) ∧ Jx pre W')) := by
  have c3 : W.cell? ⟨Bs, 0, none⟩ = some (.slice A l.length c) := hBs.cell 0
  rw [hA] at c3
  have HA := Lib.hid hA
  have HM := Lib.hid hM
  have hm0 : l.length ≤ 9223372036854775807 := by have h1 := hI.le; have h2 := hI.max; unfold maxLen at h2; omega
  have HI := Lib.hid hI
  clear hBs hI hA hM
  refine callsIn_of_wp Try.func25 rfl hf ?_ hro
  simp only [Try.ntmps25, List.size_toArray, List.length_cons, List.length_nil, Nat.reduceAdd, Nat.reduceSub, Array.replicate_succ, Array.replicate_zero, List.push_toArray, List.append_toArray, List.nil_append, List.cons_append]
  gi_wp2
  clear c3
  gi_loopw [3, 8] (fun s i wr => ∃ (k : Nat) (z : Int), k ≤ l.length ∧ s = .int .i64 z ∧ i = .int .i64 k ∧ Hid (z = sumI (l.take k)) ∧ J ((List.finRange l.length).take k) wr ∧ Below n₀ W wr ∧ n₀ ≤ wr.heap.size)
    (fun _ i _ => l.length - (intOf i).toNat)
  case atStart => exact ⟨0, 0, Nat.zero_le _, rfl, rfl, Lib.hid rfl, by simpa using h0, Below.refl _ _, hn0⟩
  case round =>
    obtain ⟨k, z, hk, rfl, rfl, HZ, hJs, hnx, hwr⟩ := hrel
    by_cases hlt : k < l.length
    · obtain ⟨g1, o1, e1, l1, rc1⟩ := (HI.out.below hnx).at (enc1_len _) hlt
      obtain ⟨rfl, rfl⟩ : g1 = g ∧ o1 = o := by rw [HA.out] at e1; injection e1 with e1; injection e1 with e1 e2 e3; exact ⟨e1.symm, e2.symm⟩
      clear e1
      have HLT := Lib.hid hlt
      have HTK := Lib.hid (fin_take_succ l.length k hlt)
      have HLN := Lib.hid (show ((List.finRange l.length).take k).length < l.length by rw [List.length_take, List.length_finRange]; omega)
      obtain ⟨x, hx⟩ : ∃ x, l[k]'hlt = x := ⟨_, rfl⟩
      rw [hx] at rc1
      have k1 : wr.cell? ⟨g1, o1 + k, none⟩ = some (.int .i64 x.1) := by have := rc1.head; simpa using this
      have HS2 := Lib.hid (show z + x.1 = sumI (l.take (k + 1)) by rw [sumI_take l k hlt, hx, HZ.out])
      have hr := sumI_take_rng HM.out (k + 1)
      rw [← HS2.out] at hr
      have hw1 : IntKind.i64.wrap (z + x.1) = z + x.1 := by rw [IntKind.wrap_i64]; omega
      obtain ⟨y, hy0⟩ : ∃ y : Fin l.length, (⟨k, hlt⟩ : Fin l.length) = y := ⟨_, rfl⟩
      rw [hy0] at HTK
      have hy1 : y.1 = k := by rw [← hy0]
      have HYS := Lib.hid (show sumsE l y = #[.int .i64 (k : Int), .int .i64 (z + x.1)] by unfold sumsE; rw [hy1, ← HS2.out])
      obtain ⟨fn, tmps, assign, body, hy, hR⟩ := hY _ y wr hJs HLN.out
      have HR := Lib.hid hR
      have BA := Lib.hid hnx
      have HN0 := Lib.hid hwr
      clear hx rc1 hR hr hy0 hy1 hlt hJs hnx hwr
      rw [HYS.out] at hy
      gi_wp2
      refine HR.out.mono ?_
      rintro e W3 (⟨rfl, hJ3, hk3⟩ | ⟨rfl, hJx3⟩)
      · have BW := Lib.hid (BA.out.trans hk3)
        have SZ := Lib.hid (Nat.le_trans HN0.out hk3.size)
        gi_wp2
        go_roundw
        case rel => exact ⟨k + 1, z + x.1, HLT.out, by first | rfl | go_num, by go_num, HS2, by rw [HTK.out]; exact hJ3, BW.out, SZ.out⟩
        case measure => have := HLT.out; simp [intOf]; omega
      · gi_wp2
        refine bodyPost_ret (results_none rfl _ _ _) rfl ?_
        exact ⟨⟨_, rfl⟩, .inr ⟨_, ⟨k + 1, HLT.out, HTK.out.symm⟩, hJx3⟩⟩
    · obtain rfl : k = l.length := by omega
      gi_wp2
      go_end0
      exact ⟨⟨_, rfl⟩, .inl ⟨_, rfl, by rwa [List.take_of_length_le (by rw [List.length_finRange]; omega)] at hJs⟩⟩
set_option maxRecDepth 100000 in
set_option maxHeartbeats 4000000 in
theorem sums1_nil_in (F : Fence) (n : Nat) (hf : F.fn 25) (hro : F.round = none) (b Bs : Nat) (A : Option Addr) (c : Nat) (l : List (IntV .i64)) (J : List (Fin l.length) → World → Prop) (W : World)
    (hBs : Blk W Bs 30 #[.slice A l.length c]) (hz : l.length = 0) (h0 : J [] W) :
    CallsIn F n Try.prog 25 #[.func (.yield b) #[] #[], .pointer (some ⟨Bs, 0, none⟩)] W fun e W' => (∃ v, e = .returned v) ∧ J [] W' := by
  have c3 : W.cell? ⟨Bs, 0, none⟩ = some (.slice A 0 c) := by have := hBs.cell 0; rw [hz] at this; exact this
  clear hBs hz
  refine callsIn_of_wp Try.func25 rfl hf ?_ hro
  simp only [Try.ntmps25, List.size_toArray, List.length_cons, List.length_nil, Nat.reduceAdd, Nat.reduceSub, Array.replicate_succ, Array.replicate_zero, List.push_toArray, List.append_toArray, List.nil_append, List.cons_append]
  gi_wp2
  gi_loopw [3, 8] (fun s i wr => s = .int .i64 0 ∧ i = .int .i64 0 ∧ J [] wr) (fun _ _ _ => 0)
  case atStart => exact ⟨rfl, rfl, h0⟩
  case round =>
    obtain ⟨rfl, rfl, hJs⟩ := hrel
    gi_wp2
    go_end0
    exact ⟨⟨_, rfl⟩, hJs⟩
theorem sums_stops (F : Fence) (n : Nat) (hf : F.fn 25) (hro : F.round = none) (hn : 1 ≤ n) (Bs n₀ : Nat) (A : Option Addr) (c : Nat) (l : List (IntV .i64)) (w : World) (hn0 : n₀ ≤ w.heap.size) (hM : mayB l = true)
    (hBs : Blk w Bs 30 #[.slice A l.length c]) (hI : RowIn (enc1 .i64) 1 w n₀ A c l) :
    SeqStopsK F n Try.prog 25 #[.pointer (some ⟨Bs, 0, none⟩)] (sumsE l) (Below n₀) (fun ys => ys = List.finRange l.length) (fun pre => ∃ k, k ≤ l.length ∧ pre = (List.finRange l.length).take k) l.length w := fun b J Jx W hW hJ _ hY h0 => by
  have hBs' := below_blk hW hBs hBs.lt
  have hI' := hI.below (hW.mono hn0)
  by_cases hz : l.length = 0
  · refine (sums1_nil_in F n hf hro b Bs A c l J W hBs' hz h0).mono fun e W' ⟨he, hj⟩ => ⟨he, .inl ⟨_, rfl, ?_⟩⟩
    have : List.finRange l.length = [] := List.eq_nil_of_length_eq_zero (by rw [List.length_finRange]; exact hz)
    rw [this]; exact hj
  · have hz' : l ≠ [] := fun e => hz (by rw [e]; rfl)
    obtain ⟨g, o, hA, _, _⟩ := hI'.cells hz'
    exact sums1_some_in g o F n hf hro hn b Bs n₀ A c l J Jx W (Nat.le_trans hn0 hW.size) hM hY hBs' hI' hA h0
end Go.Proofs.Ytpoejbfcioijhaa
