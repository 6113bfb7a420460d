/- KeysTwice: the statement's walk. -/
import Derived.Test.YtdojjddobepccaaKeyF
import Derived.Test.YtdojjddobepccaaKeyV
import Derived.Test.YtdojjddobepccaaKeyD
import Derived.Test.YtdojjddobepccaaKeyX
namespace Go.Proofs.Ytdojjddobepccaa
open Go.RowKit Go.Sort
/-- Insert, as a reader of its answer sees it -/
theorem insert_in (A : Option Addr) (c : Nat) (l : List K32) (k : K32) (B : Nat) (hl : l.length ≤ 100000) (w : World) (hB : B ≤ w.heap.size) (h : RowIn encK 32 w B A c l) :
    Calls Try.prog 11 #[.slice A l.length c, .agg (bytesA k.1)] w fun e w' => ∃ A' c', e = .returned (.tuple #[.slice A' (insK k l).length c', .bool !(decide (k ∈ l))]) ∧ RowIn encK 32 w' w'.heap.size A' c' (insK k l) ∧ Below w.heap.size w w' :=
  (insert_any A c l k B hl w hB h).mono fun _ _ ⟨_, h1, h2, h3⟩ => by
    obtain ⟨A', c', rfl, hr⟩ := RowIn.of_own encK_len h2
    exact ⟨A', c', h1, hr, h3⟩
theorem remove_in (A : Option Addr) (c : Nat) (l : List K32) (k : K32) (B : Nat) (hl : l.length ≤ 100000) (w : World) (hB : B ≤ w.heap.size) (h : RowIn encK 32 w B A c l) :
    Calls Try.prog 13 #[.slice A l.length c, .agg (bytesA k.1)] w fun e w' => ∃ A' c', e = .returned (.tuple #[.slice A' (l.erase k).length c', .bool (decide (k ∈ l))]) ∧ RowIn encK 32 w' w'.heap.size A' c' (l.erase k) ∧ Below w.heap.size w w' :=
  (remove_any A c l k B hl w hB h).mono fun _ _ ⟨_, h1, h2, h3⟩ => by
    obtain ⟨A', c', rfl, hr⟩ := RowIn.of_own encK_len h2
    exact ⟨A', c', h1, hr, h3⟩
theorem sort_in (A : Option Addr) (c : Nat) (l : List K32) (B : Nat) (w : World) (hl : l.length ≤ 1000000) (hB : B ≤ w.heap.size) (h : RowIn encK 32 w B A c l) :
    Calls Try.prog 18 #[.slice A l.length c] w fun e w' => ∃ A' c', e = .returned (.slice A' (sortK l).length c') ∧ RowIn encK 32 w' w'.heap.size A' c' (sortK l) ∧ Below w.heap.size w w' :=
  (sort_any A c l B w hl hB h).mono fun _ _ ⟨_, h1, h2, h3⟩ => by
    rw [← sortK_len] at h2
    obtain ⟨A', c', rfl, hr⟩ := RowIn.of_own encK_len h2
    exact ⟨A', c', h1, hr, h3⟩
set_option maxHeartbeats 4000000 in
theorem ktwice_small (A : Option Addr) (c : Nat) (l : List K32) (k : K32) (hl : l.length ≤ 200) (w : World) (h : RowIn encK 32 w w.heap.size A c l) :
    Calls Try.prog 8 #[.slice A l.length c, .agg (bytesA k.1)] w fun e w' => e = .returned (.bool true) ∧ Below w.heap.size w w' := by
  have HOR := Lib.hid (fun W (hW : Below w.heap.size w W) => h.below (w' := W) hW)
  have K0 := Lib.hid (Blk.new w 23 (bytesA k.1))
  have B0 := Lib.hid (show Below w.heap.size w (w.alloc (.cells (bytesA k.1) 23)) from (Below.refl _ _).alloc (Nat.le_refl _) _)
  clear h
  obtain ⟨n, hn⟩ : ∃ n, l.length = n := ⟨_, rfl⟩
  rw [hn] at hl ⊢
  have HN := Lib.hid hn
  clear hn
  have d0 : decide ((200 : Int) < (n : Int)) = false := decide_eq_false (by omega)
  go_enter Try.func8, Try.ntmps8
  go_wp2_with (go_at_call 10; refine (shown_any _).mono ?_; rintro e w1 ⟨rfl, b1⟩; have K1 := Lib.hid (below_blk b1 K0.out K0.out.lt); have B1 := Lib.hid (B0.out.trans (b1.mono B0.out.size)); clear b1)
  have K2 := Lib.hid (K1.out.alloc (.cells #[] 23))
  have B2 := Lib.hid (B1.out.alloc B1.out.size (.cells #[] 23))
  clear K0 B0 K1 B1
  generalize w1.alloc (.cells #[] 23) = w2 at K2 B2 ⊢
  go_loopw [5, 6] (fun so si wr => ∃ (j m : Nat) (A1 : Option Addr) (c1 : Nat), si = .int .i64 j ∧ j ≤ n ∧ so = .slice A1 m c1 ∧ Hid (m = (setOf (l.take j)).length ∧ RowIn encK 32 wr wr.heap.size A1 c1 (setOf (l.take j))) ∧ Hid (Blk wr w.heap.size 23 (bytesA k.1)) ∧ Hid (Below w.heap.size w wr)) (fun _ i _ => n - (intOf i).toNat)
  case atStart => exact ⟨0, 0, _, _, rfl, by omega, rfl, Lib.hid ⟨by simp [setOf], by rw [List.take_zero]; exact RowIn.nil (Nat.zero_le _)⟩, K2, B2⟩
  case round =>
    clear K2 B2
    obtain ⟨j, m, A1, c1, rfl, hj, rfl, HS, HK, HW⟩ := hrel
    have hml : m ≤ 200 := by
      have h1 := HS.out.1
      have h2 := setOf_len (l.take j)
      rw [List.length_take] at h2
      omega
    by_cases hlt : j < n
    · have hjl : j < l.length := by rw [HN.out]; exact hlt
      have HSN := Lib.hid (show setOf (l.take (j + 1)) = insK l[j] (setOf (l.take j)) by rw [take_snoc l j hjl, setOf_snoc])
      obtain ⟨g, o, rfl, hg, hc⟩ := (HOR.out wr HW.out).cells (by intro e; subst e; simp at hjl)
      have HX := Lib.hid (hc.at encK_len hjl)
      clear hc
      obtain ⟨x, hx⟩ : ∃ x, l[j]'hjl = x := ⟨_, rfl⟩
      rw [hx] at HX HSN
      clear hx
      have d1 : (0 : Int) ≤ (j : Int) := by omega
      have d2 : (j : Int) < (n : Int) := by omega
      have HI := Lib.hid (insert_in A1 c1 (setOf (l.take j)) x wr.heap.size (by rw [← HS.out.1]; omega) wr (Nat.le_refl _) HS.out.2)
      rw [← HS.out.1] at HI
      go_wp2_with (first
        | ((with_reducible refine at_loadg 36 ?_); refine tyK.wpList_load (by rfl) (.tmp 36) rfl g _ rfl x (HX.out.cast (by omega)) ?_; simp only [encK_bytes])
        | (go_at_call 11; refine HI.out.mono ?_; rintro e w3 ⟨A3, c3, rfl, r3, b3⟩))
      go_roundw
      case rel => exact ⟨j + 1, _, A3, c3, by go_num, by omega, rfl, Lib.hid ⟨by rw [HSN.out], by rw [HSN.out]; exact r3⟩, Lib.hid (below_blk b3 HK.out HK.out.lt), Lib.hid (HW.out.trans (b3.mono HW.out.size))⟩
      case measure => simp [intOf]; omega
    · have hje : j = n := by omega
      subst hje
      have HSL := Lib.hid (show l.take j = l by rw [List.take_of_length_le (by rw [HN.out]; exact Nat.le_refl _)])
      rw [HSL.out] at HS
      obtain ⟨s, hs⟩ : ∃ s, setOf l = s := ⟨_, rfl⟩
      have HSS := Lib.hid (show IsSet s from hs ▸ setOf_set l)
      rw [hs] at HS
      clear hs HSL hlt
      have HI1 := Lib.hid (insert_in A1 c1 s k wr.heap.size (by rw [← HS.out.1]; omega) wr (Nat.le_refl _) HS.out.2)
      rw [← HS.out.1] at HI1
      have HAS := Lib.hid (insK_set (k := k) HSS.out)
      have HAL := Lib.hid (show (insK k s).length ≤ 201 by have := insK_len k s; have := HS.out.1; omega)
      have HKA := Lib.hid (show k ∈ insK k s from insK_mem.2 (Or.inl rfl))
      obtain ⟨a, ha⟩ : ∃ a, insK k s = a := ⟨_, rfl⟩
      rw [ha] at HI1 HAS HAL HKA
      have HB1 := Lib.hid (show insK k a = a by unfold insK; rw [if_pos HKA.out])
      have HLE := Lib.hid (show (((a.erase k).length : Nat) : Int) = (a.length : Int) - 1 ∧ 1 ≤ a.length by
        have h1 := List.length_erase_of_mem HKA.out
        have h2 : 0 < a.length := List.length_pos_of_mem HKA.out
        omega)
      have HNE := Lib.hid (show k ∉ a.erase k from fun hm => by
        have := (HAS.out.nodup.mem_erase_iff).1 hm
        exact this.1 rfl)
      obtain ⟨d, hd⟩ : ∃ d, a.erase k = d := ⟨_, rfl⟩
      rw [hd] at HLE HNE
      obtain ⟨f1, hf1⟩ : ∃ f, (!(decide (k ∈ s))) = f := ⟨_, rfl⟩
      rw [hf1] at HI1
      obtain ⟨ma, hma⟩ : ∃ q, a.length = q := ⟨_, rfl⟩
      rw [hma] at HI1 HAL HLE
      obtain ⟨md, hmd⟩ : ∃ q, d.length = q := ⟨_, rfl⟩
      rw [hmd] at HLE
      have HMA := Lib.hid hma
      have HMD := Lib.hid hmd
      have HD := Lib.hid hd
      clear ha hf1 hma hmd hd
      go_wp2_with ((with_reducible refine at_loadg 3 ?_); refine wpList_load_rowg (by rfl) 23 (.tmp 3) rfl w.heap.size rfl 23 (bytesA k.1) _ HK.out Try.underlying23 rfl (szK k) ?_)
      with_reducible refine HI1.out.mono ?_
      rintro e w3 ⟨A3, c3, rfl, r3, b3⟩
      have B3 := HW.out.trans (b3.mono HW.out.size)
      have HK3 := Lib.hid (below_blk b3 HK.out HK.out.lt)
      clear b3
      have HI2 := Lib.hid (insert_in A3 c3 a k w3.heap.size (by rw [HMA.out]; have := HAL.out; omega) w3 (Nat.le_refl _) r3)
      rw [HB1.out, HMA.out, decide_eq_true HKA.out] at HI2
      have R3 := Lib.hid r3
      clear r3
      go_wp2_with ((with_reducible refine at_loadg 3 ?_); refine wpList_load_rowg (by rfl) 23 (.tmp 3) rfl w.heap.size rfl 23 (bytesA k.1) _ HK3.out Try.underlying23 rfl (szK k) ?_)
      with_reducible refine HI2.out.mono ?_
      rintro e w4 ⟨A4, c4, rfl, r4, b4⟩
      have B4 := B3.trans (b4.mono B3.size)
      have HK4 := Lib.hid (below_blk b4 HK3.out HK3.out.lt)
      have R34 := Lib.hid ((R3.out.below b4).more b4.size)
      clear b4 B3
      have HR1 := Lib.hid (remove_in A4 c4 a k w4.heap.size (by rw [HMA.out]; have := HAL.out; omega) w4 (Nat.le_refl _) r4)
      rw [HD.out, HMA.out, HMD.out, decide_eq_true HKA.out] at HR1
      have R4 := Lib.hid r4
      clear r4
      go_wp2_with ((with_reducible refine at_loadg 3 ?_); refine wpList_load_rowg (by rfl) 23 (.tmp 3) rfl w.heap.size rfl 23 (bytesA k.1) _ HK4.out Try.underlying23 rfl (szK k) ?_)
      with_reducible refine HR1.out.mono ?_
      rintro e w5 ⟨A5, c5, rfl, r5, b5⟩
      have B5 := B4.trans (b5.mono B4.size)
      have HK5 := Lib.hid (below_blk b5 HK4.out HK4.out.lt)
      have R35 := Lib.hid ((R34.out.below b5).more b5.size)
      have R45 := Lib.hid ((R4.out.below b5).more b5.size)
      clear b5 B4
      have HR2 := Lib.hid (remove_in A5 c5 d k w5.heap.size (by rw [HMD.out]; have := HAL.out; have := HLE.out; omega) w5 (Nat.le_refl _) r5)
      rw [HMD.out, decide_eq_false HNE.out] at HR2
      have R5 := Lib.hid r5
      clear r5
      go_wp2_with ((with_reducible refine at_loadg 3 ?_); refine wpList_load_rowg (by rfl) 23 (.tmp 3) rfl w.heap.size rfl 23 (bytesA k.1) _ HK5.out Try.underlying23 rfl (szK k) ?_)
      with_reducible refine HR2.out.mono ?_
      rintro e w6 ⟨A6, c6, rfl, r6, b6⟩
      have B6 := B5.trans (b6.mono B5.size)
      have HK6 := Lib.hid (below_blk b6 HK5.out HK5.out.lt)
      have R36 := Lib.hid ((R35.out.below b6).more b6.size)
      have R46 := Lib.hid ((R45.out.below b6).more b6.size)
      have R56 := Lib.hid ((R5.out.below b6).more b6.size)
      clear b6 B5 r6
      have HSM := Lib.hid (same_any A3 c3 a A4 c4 a w6 (by rw [HMA.out]; have := HAL.out; omega) (by rw [HMA.out]; have := HAL.out; omega) R36.out R46.out)
      rw [HMA.out, decide_eq_true rfl] at HSM
      have HHA := Lib.hid (fun W (hW : Below w6.heap.size w6 W) => has_any A5 c5 d k w6.heap.size (by rw [HMD.out]; have := HAL.out; have := HLE.out; omega) W hW.size (R56.out.below hW))
      rw [HMD.out, decide_eq_false HNE.out] at HHA
      have HDI := Lib.hid (fun W (hW : Below w6.heap.size w6 W) => distinct_any A3 c3 a w6.heap.size W (by rw [HMA.out]; have := HAL.out; omega) hW.size (R36.out.below hW))
      rw [HMA.out, decide_eq_true HAS.out.nodup] at HDI
      have dle : ((md : Nat) : Int) = (ma : Int) - 1 := HLE.out.1
      have dwr : IntKind.i64.wrap ((ma : Int) - 1) = (ma : Int) - 1 := by rw [IntKind.wrap_i64]; have := HAL.out; have := HLE.out.2; omega
      have deq : ((md : Int) == (ma : Int) - 1) = true := by rw [dle]; simp
      clear dle
      go_wp2_with (first
        | (go_at_call 17; refine HSM.out.mono ?_; rintro e w7 ⟨rfl, b7⟩; have HK7 := Lib.hid (below_blk b7 HK6.out HK6.out.lt))
        | ((with_reducible refine at_loadg 3 ?_); refine wpList_load_rowg (by rfl) 23 (.tmp 3) rfl w.heap.size rfl 23 (bytesA k.1) _ HK7.out Try.underlying23 rfl (szK k) ?_)
        | (go_at_call 22; refine (HHA.out _ b7).mono ?_; rintro e w8 ⟨rfl, b8⟩; have B8 := b7.trans (b8.mono b7.size))
        | (go_at_call 20; refine (HDI.out _ B8).mono ?_; rintro e w9 ⟨rfl, b9⟩))
      go_ret
      exact ⟨rfl, B6.trans ((B8.trans (b9.mono B8.size)).mono B6.size)⟩
theorem ktwice_walk (A : Option Addr) (c : Nat) (l : List K32) (k : List UInt8) (w : World) (h : RowIn encK 32 w w.heap.size A c l) (hk : k.length = 32) :
    Calls Try.prog 8 #[.slice A l.length c, .agg (bytesA k)] w fun e w' => e = .returned (.bool true) ∧ Below w.heap.size w w' := by
  obtain ⟨k, rfl⟩ : ∃ q : K32, q.1 = k := ⟨⟨k, hk⟩, rfl⟩
  by_cases hl : l.length ≤ 200
  · exact ktwice_small A c l k hl w h
  · obtain ⟨n, hn⟩ : ∃ n, l.length = n := ⟨_, rfl⟩
    rw [hn] at hl ⊢
    clear h hn
    have d0 : decide ((200 : Int) < (n : Int)) = true := decide_eq_true (by omega)
    have B0 : Below w.heap.size w (w.alloc (.cells (bytesA k.1) 23)) := (Below.refl _ _).alloc (Nat.le_refl _) _
    go_enter Try.func8, Try.ntmps8
    go_wp2_with (go_at_call 10; refine (shown_any _).mono ?_; rintro e w1 ⟨rfl, b1⟩)
    go_ret
    exact ⟨rfl, B0.trans (b1.mono B0.size)⟩
end Go.Proofs.Ytdojjddobepccaa
