/- KeysSorts: the statement's walk (made by genSorts.py). -/
import Derived.Test.YtdojjddobepccaaLKTwice
namespace Go.Proofs.Ytdojjddobepccaa
open Go.RowKit Go.Sort
def rotK (l : List K32) (b : Nat) : List K32 := l.drop (b % l.length) ++ l.take (b % l.length)
theorem rotK_perm (l : List K32) (b : Nat) : (rotK l b).Perm l := by
  unfold rotK
  have h := List.perm_append_comm (l₁ := l.drop (b % l.length)) (l₂ := l.take (b % l.length))
  rwa [List.take_append_drop] at h
theorem rotK_len (l : List K32) (b : Nat) : (rotK l b).length = l.length := (rotK_perm l b).length_eq
theorem rotK_get (l : List K32) (b j : Nat) (hj : j < l.length) : (rotK l b)[j]'(by rw [rotK_len]; exact hj) = l[(j + b) % l.length]'(Nat.mod_lt _ (by omega)) := by
  have hr : b % l.length < l.length := Nat.mod_lt _ (by omega)
  have e : (j + b) % l.length = (j + b % l.length) % l.length := (Nat.add_mod_mod j b l.length).symm
  have h1 : (rotK l b)[j]? = l[(j + b) % l.length]? := by
    rw [e]
    unfold rotK
    obtain ⟨r, hrr⟩ : ∃ r, b % l.length = r := ⟨_, rfl⟩
    rw [hrr] at hr ⊢
    by_cases h : j < l.length - r
    · rw [List.getElem?_append_left (by rw [List.length_drop]; exact h), List.getElem?_drop, Nat.mod_eq_of_lt (by omega), Nat.add_comm]
    · have e2 : (j + r) % l.length = j + r - l.length := by rw [Nat.mod_eq_sub_mod (by omega), Nat.mod_eq_of_lt (by omega)]
      rw [List.getElem?_append_right (by rw [List.length_drop]; omega), List.length_drop, e2, List.getElem?_take_of_lt (by omega)]
      congr 1
      omega
  rw [List.getElem?_eq_getElem (by rw [rotK_len]; exact hj), List.getElem?_eq_getElem (Nat.mod_lt _ (by omega))] at h1
  exact Option.some.inj h1
theorem meet_sort (l : List K32) : meetF l (sortK l) = decide (0 < l.length) := by
  unfold meetF
  rw [Bool.eq_iff_iff, List.any_eq_true, decide_eq_true_iff]
  constructor
  · rintro ⟨x, h1, h2⟩; exact List.length_pos_of_mem (of_decide_eq_true h2)
  · intro h; obtain ⟨x, hx⟩ := List.exists_mem_of_length_pos h; exact ⟨x, sortK_mem.2 hx, decide_eq_true hx⟩
set_option maxHeartbeats 4000000 in
theorem ksorts_small (A : Option Addr) (c : Nat) (l : List K32) (b : Nat) (hl : l.length ≤ 200) (hb : b < 256) (w : World) (h : RowIn encK 32 w w.heap.size A c l) :
    Calls Try.prog 6 #[.slice A l.length c, .int .u8 b] w fun e w' => e = .returned (.bool true) ∧ Below w.heap.size w w' := by
  have HOR := Lib.hid (fun W (hW : Below w.heap.size w W) => (h.below hW))
  have HRP := Lib.hid (rotK_perm l b)
  have HRL := Lib.hid (rotK_len l b)
  have HRG := Lib.hid (fun j hj => rotK_get l b j hj)
  obtain ⟨t, ht⟩ : ∃ t, rotK l b = t := ⟨_, rfl⟩
  have HRG2 := Lib.hid (fun j (hj : j < l.length) (hj2 : j < t.length) => show t[j] = l[(j + b) % l.length]'(Nat.mod_lt _ (by omega)) by subst ht; exact HRG.out j hj)
  rw [ht] at HRP HRL
  have HST := Lib.hid (sortK_congr HRP.out)
  have HSS := Lib.hid (sortK_self (sortK_rises l))
  have HMS := Lib.hid (meet_sort l)
  clear h HRG ht
  obtain ⟨n, hn⟩ : ∃ n, l.length = n := ⟨_, rfl⟩
  rw [hn] at hl HRL HMS ⊢
  have HN := Lib.hid hn
  clear hn
  have d0 : decide ((200 : Int) < (n : Int)) = false := decide_eq_false (by omega)
  go_enter Try.func6, Try.ntmps6
  go_wp2_with (go_at_call 10; refine (shown_any _).mono ?_; rintro e w1 ⟨rfl, b1⟩)
  have B2 := Lib.hid (b1.alloc b1.size (.cells #[] 23))
  have O2 := Lib.hid (own_nil (base := w.heap.size) (Blk.new w1 23 #[]) b1.size)
  clear b1
  generalize w1.alloc (.cells #[] 23) = w2 at O2 B2 ⊢
  go_loopw [5, 6] (fun so si wr => ∃ j : Nat, si = .int .i64 j ∧ j ≤ n ∧ Hid (wr.ownsRow w.heap.size 23 32 so (t.take j).length (cellsOf encK (t.take j))) ∧ Hid (Below w.heap.size w wr)) (fun _ i _ => n - (intOf i).toNat)
  case atStart => exact ⟨0, rfl, by omega, O2, B2⟩
  case round =>
    clear O2 B2
    obtain ⟨j, rfl, hj, HO, HW⟩ := hrel
    by_cases hlt : j < n
    · have hq : (j + b) % n < n := Nat.mod_lt _ (by omega)
      have hql : (j + b) % n < l.length := by rw [HN.out]; exact hq
      have hjt : j < t.length := by rw [HRL.out]; exact hlt
      have HTS := Lib.hid (take_snoc t j hjt)
      obtain ⟨g, o, rfl, hg, hc⟩ := (HOR.out wr HW.out).cells (by intro e; subst e; simp at hql)
      have HX := Lib.hid (hc.at encK_len hql)
      clear hc
      have HXT := Lib.hid (show t[j] = l[(j + b) % n]'hql by rw [HRG2.out j (by rw [HN.out]; exact hlt) hjt]; simp only [HN.out])
      obtain ⟨x, hx⟩ : ∃ x, l[(j + b) % n]'hql = x := ⟨_, rfl⟩
      rw [hx] at HX HXT
      rw [HXT.out] at HTS
      have HLT := Lib.hid (show (t.take j).length ≤ 200 by rw [List.length_take]; omega)
      obtain ⟨q, hqq⟩ : ∃ q, (j + b) % n = q := ⟨_, rfl⟩
      have hm : Int.tmod ((j : Int) + (b : Int)) (n : Int) = (q : Int) := by rw [Int.tmod_eq_emod_of_nonneg (by omega), ← hqq, Int.natCast_emod, Int.natCast_add]
      rw [hqq] at hq HX
      clear hx hqq hql
      have d1 : (0 : Int) ≤ (q : Int) := by omega
      have d2 : (q : Int) < (n : Int) := by omega
      have d3 : ((n : Int) == 0) = false := beq_eq_false_iff_ne.mpr (by omega)
      have d4 : ¬ ((n : Int) = 0) := by omega
      have d5 : IntKind.i64.wrap ((j : Int) + (b : Int)) = (j : Int) + (b : Int) := by rw [IntKind.wrap_i64]; omega
      have d6 : IntKind.i64.wrap (q : Int) = (q : Int) := by rw [IntKind.wrap_i64]; omega
      have d7 : IntKind.i64.wrap (b : Int) = (b : Int) := by rw [IntKind.wrap_i64]; omega
      go_wp2_with (first
        | ((with_reducible refine at_loadg 33 ?_); refine tyK.wpList_load (by rfl) (.tmp 33) rfl g _ rfl x (HX.out.cast (by omega)) ?_; simp only [encK_bytes])
        | ((with_reducible refine at_buildSlice 35 ?_); refine tyK.wpList_build rfl zeroK 1 _ rfl [x] rfl (by omega) (by omega) (by kernel_rfl) ?_)
        | ((with_reducible refine at_appendg 36 24 35 ?_); refine tyK.wpList_append1 rfl zcK 32 zbK (by omega) (.tmp 24) (.tmp 35) rfl w.heap.size _ (t.take j) rfl (own_alloc HO.out _) _ 1 x rfl (Blk.new _ _ _) (by have := HLT.out; omega) (by have := HW.out.size; simp; omega) ?_; intro v5 w5 p5 g5; have O5 := Lib.hid (own_congr p5 HTS.out.symm); have B5 := Lib.hid ((HW.out.alloc HW.out.size _).trans (own_grown (own_alloc HO.out _) g5 (by have := HW.out.size; simp; omega))); clear p5 g5))
      go_roundw
      case rel => exact ⟨j + 1, by go_num, by omega, O5, B5⟩
      case measure => simp [intOf]; omega
    · have hje : j = n := by omega
      subst hje
      have HTT := Lib.hid (show t.take j = t from List.take_of_length_le (by rw [HRL.out]; exact Nat.le_refl _))
      have HO' := Lib.hid (own_congr HO.out HTT.out)
      clear HO
      obtain ⟨A5, c5, rfl, r5⟩ := RowIn.of_own encK_len HO'.out
      rw [HRL.out]
      have R5 := Lib.hid r5
      clear HO' r5
      have HS1 := Lib.hid (sort_in A c l w.heap.size wr (by rw [HN.out]; omega) HW.out.size (HOR.out wr HW.out))
      rw [sortK_len, HN.out] at HS1
      go_wp2_with fail
      with_reducible refine HS1.out.mono ?_
      rintro e w3 ⟨A7, c7, rfl, r7, b7⟩
      have R7 := Lib.hid r7
      have R57 := Lib.hid ((R5.out.below b7).more b7.size)
      have B3 := Lib.hid (HW.out.trans (b7.mono HW.out.size))
      clear b7 r7 R5
      have HSL := Lib.hid (show (sortK l).length = j by rw [sortK_len, HN.out])
      have HSR := Lib.hid (sortK_rises l)
      obtain ⟨s, hs⟩ : ∃ s, sortK l = s := ⟨_, rfl⟩
      rw [hs] at R7 HSL HSR HST HSS HMS
      go_wp2_with fail
      go_loopw [8] (fun si wr => ∃ q : Nat, si = .int .i64 q ∧ 1 ≤ q ∧ (q ≤ j ∨ q = 1) ∧ Hid (Below w3.heap.size w3 wr)) (fun i _ => j - (intOf i).toNat)
      case atStart => exact ⟨1, rfl, by omega, by omega, Lib.hid (Below.refl _ _)⟩
      case round =>
        obtain ⟨q, rfl, hq1, hq2, HC⟩ := hrel
        by_cases hlq : q < j
        · obtain ⟨q0, rfl⟩ : ∃ q0, q = q0 + 1 := ⟨q - 1, by omega⟩
          have hi1 : q0 + 1 < s.length := by rw [HSL.out]; exact hlq
          have hi0 : q0 < s.length := by omega
          obtain ⟨g, o, rfl, hg, hc⟩ := (R7.out.below HC.out).cells (by intro e; subst e; simp at hi1)
          have HX := Lib.hid (hc.at encK_len hi1)
          have HY := Lib.hid (hc.at encK_len hi0)
          clear hc
          have hgw : g < wr.heap.size := by have := HC.out.size; omega
          have hlx := rises_adj' HSR.out q0 hi1
          obtain ⟨x, hx⟩ : ∃ x, s[q0 + 1]'hi1 = x := ⟨_, rfl⟩
          obtain ⟨y, hy⟩ : ∃ y, s[q0]'hi0 = y := ⟨_, rfl⟩
          rw [hx] at HX hlx
          rw [hy] at HY hlx
          have HL := Lib.hid (fun W => less_any x y W)
          rw [hlx] at HL
          clear hx hy hlx
          have hqq : ((q0 + 1 : Nat) : Int) = (q0 : Int) + 1 := by omega
          rw [hqq]
          have d1 : (0 : Int) ≤ (q0 : Int) := by omega
          have d2 : (q0 : Int) < (j : Int) := by omega
          have d3 : (0 : Int) ≤ (q0 : Int) + 1 := by omega
          have d4 : (q0 : Int) + 1 < (j : Int) := by omega
          go_wp2_with fail
          refine wp_region_from (by kernel_rfl) (by kernel_rfl) ?_
          repeat (first
            | ((with_reducible refine at_qload 47 ?_); refine tyK.wpQuiet_load (by rfl) (.tmp 47) rfl g _ rfl x (fun W hC => (HX.out.below hC.below hgw).cast (by omega)) ?_; simp only [encK_bytes, Act.put, List.setIfInBounds_toArray, List.set_cons_succ, List.set_cons_zero])
            | ((with_reducible refine at_qload 52 ?_); refine tyK.wpQuiet_load (by rfl) (.tmp 52) rfl g _ rfl y (fun W hC => (HY.out.below hC.below hgw).cast (by omega)) ?_; simp only [encK_bytes, Act.put, List.setIfInBounds_toArray, List.set_cons_succ, List.set_cons_zero])
            | (go_big_quiet_want; go_big_quiet_op; refine ⟨_, fun _ _ => by with_reducible rfl, ?_⟩; go_big_quiet_on)
            | go_big_quiet_step ((intro hC; go_at_call 15; with_reducible exact (HL.out _).mono fun _ _ h => ⟨h.1, hC.call h.2.below⟩)))
          refine wpQuiet_nil ?_
          intro w9 hC
          go_wp2_with fail
          go_roundw
          case rel => exact ⟨q0 + 2, by go_num, by omega, by omega, Lib.hid (HC.out.trans (hC.below.mono HC.out.size))⟩
          case measure => simp [intOf]; omega
        · have HSa := Lib.hid (fun W (hW : Below w3.heap.size w3 W) => sort_in A5 c5 t w3.heap.size W (by rw [HRL.out]; omega) hW.size (R57.out.below hW))
          have HSb := Lib.hid (fun W (hW : Below w3.heap.size w3 W) => sort_in A7 c7 s w3.heap.size W (by rw [HSL.out]; omega) hW.size (R7.out.below hW))
          have HSm := Lib.hid (fun A8 c8 W (hW : Below w3.heap.size w3 W) (hr : RowIn encK 32 W W.heap.size A8 c8 s) => same_any A8 c8 s A7 c7 s W (by rw [HSL.out]; omega) (by rw [HSL.out]; omega) hr ((R7.out.below hW).more hW.size))
          have HM := Lib.hid (fun W (hW : Below w3.heap.size w3 W) => meet_any A c l A7 c7 s w3.heap.size (by rw [HN.out]; omega) (by rw [HSL.out]; omega) W hW.size (((HOR.out w3 B3.out).more B3.out.size).below hW) (R7.out.below hW))
          rw [HST.out, HSL.out, HRL.out] at HSa
          rw [HSS.out, HSL.out] at HSb
          rw [HSL.out, decide_eq_true rfl] at HSm
          rw [HMS.out, HSL.out, HN.out] at HM
          have dj : decide (0 < j) = decide ((0 : Int) < (j : Int)) := by rw [decide_eq_decide]; omega
          rw [dj] at HM
          clear hq2 dj hs
          go_wp2_with (first
            | (go_at_call 18; (first | with_reducible refine (HSa.out _ HC.out).mono ?_ | with_reducible refine (HSb.out _ HC.out).mono ?_); rintro e w4 ⟨A4, c4, rfl, r4, b4⟩; have R4 := Lib.hid r4; clear r4; replace HC := Lib.hid (HC.out.trans (b4.mono HC.out.size)); clear b4)
            | (go_at_call 17; with_reducible refine (HSm.out _ _ _ HC.out R4.out).mono ?_; rintro e w4 ⟨rfl, b4⟩; replace HC := Lib.hid (HC.out.trans (b4.mono HC.out.size)); clear b4 R4)
            | (go_at_call 24; with_reducible refine (HM.out _ HC.out).mono ?_; rintro e w4 ⟨rfl, b4⟩; replace HC := Lib.hid (HC.out.trans (b4.mono HC.out.size)); clear b4))
          go_ret
          exact ⟨by simp, B3.out.trans (HC.out.mono B3.out.size)⟩
theorem ksorts_walk (A : Option Addr) (c : Nat) (l : List K32) (b : Int) (w : World) (h : RowIn encK 32 w w.heap.size A c l) (hb : (Lit.int .u8 b).wf = true) :
    Calls Try.prog 6 #[.slice A l.length c, .int .u8 b] w fun e w' => e = .returned (.bool true) ∧ Below w.heap.size w w' := by
  simp [Lit.wf, IntKind.min, IntKind.max, IntKind.signed, IntKind.bits] at hb
  obtain ⟨b, rfl⟩ := Int.eq_ofNat_of_zero_le hb.1
  by_cases hl : l.length ≤ 200
  · exact ksorts_small A c l b hl (by omega) w h
  · obtain ⟨n, hn⟩ : ∃ n, l.length = n := ⟨_, rfl⟩
    rw [hn] at hl ⊢
    clear h hn
    have d0 : decide ((200 : Int) < (n : Int)) = true := decide_eq_true (by omega)
    go_enter Try.func6, Try.ntmps6
    go_wp2_with (go_at_call 10; refine (shown_any _).mono ?_; rintro e w1 ⟨rfl, b1⟩)
    go_ret
    exact ⟨rfl, b1⟩
end Go.Proofs.Ytdojjddobepccaa
