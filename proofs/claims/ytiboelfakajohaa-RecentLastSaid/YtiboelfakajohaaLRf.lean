/- RecentLast. Written by genRcF.py. -/
import Derived.Test.YtiboelfakajohaaRcP
import Derived.Test.YtiboelfakajohaaMapU
namespace Go.Proofs.Ytiboelfakajohaa
open Go.RowKit
theorem wf_u8i (z : IntV .u8) : 0 ≤ z.1 ∧ z.1 < 256 := by
  have := z.2
  simp [Lit.wf, IntKind.min, IntKind.max, IntKind.signed, IntKind.bits] at this
  omega
/-- the key that begins by a number -/
def kOf (z : Int) : K32 := ⟨UInt8.ofNat z.toNat :: List.replicate 31 0, by simp⟩
theorem kOf_inj {a b : Int} (ha : 0 ≤ a ∧ a < 256) (hb : 0 ≤ b ∧ b < 256) (h : kOf a = kOf b) : a = b := by
  have h1 := congrArg (fun k : K32 => k.1.head?) h
  simp only [kOf, List.head?_cons, Option.some.injEq] at h1
  have h2 := congrArg UInt8.toNat h1
  simp only [UInt8.toNat_ofNat'] at h2
  omega
theorem kOf_built0 (z : Int) : Try.prog.built 24 [(0, .int .u8 z)] = some (Value.int .u8 z :: List.replicate 31 (.int .u8 0)).toArray := by kernel_rfl
theorem kOf_built (z : Int) (h : 0 ≤ z ∧ z < 256) : Try.prog.built 24 [(0, .int .u8 z)] = some (encK (kOf z)).toArray := by
  rw [kOf_built0]
  congr 1
  congr 1
  unfold kOf encK
  dsimp only
  congr 1
  congr 1
  rw [UInt8.toNat_ofNat']
  omega
def tmG (n : Nat) : IntV .u64 := if h : n ≤ 1000000 then ⟨(n : Int), by simp [Lit.wf, IntKind.min, IntKind.max, IntKind.signed, IntKind.bits]; omega⟩ else ⟨0, by decide⟩
theorem tmG_val {n : Nat} (h : n ≤ 1000000) : (tmG n).1 = (n : Int) := by unfold tmG; rw [dif_pos h]
def u8z : IntV .u8 := ⟨0, by decide⟩
/-- what was put so far, the newest one first -/
def histL (l : List (IntV .u8)) (G : Nat) : Nat → List ItV
  | 0 => []
  | i + 1 => (kOf (l.getD i u8z).1, tmG (G * (i + 1))) :: histL l G i
theorem time_le {G i : Nat} (hG : G < 256) (hi : i ≤ 100) : G * i ≤ 25500 := by
  have h1 : G * i ≤ 255 * 100 := Nat.mul_le_mul (by omega) hi
  omega
set_option maxRecDepth 20000 in
set_option maxHeartbeats 8000000 in
theorem rcLast_h (HPU : RPutOk) (HHA : RHasOk) (A : Option Addr) (c : Nat) (l : List (IntV .u8)) (g k : IntV .u8) (w : World) (hn : 100 < l.length) :
    Calls Try.prog 4 #[.slice A l.length c, .int .u8 g.1, .int .u8 k.1] w fun e w' => e = .returned (.bool true) ∧ Below w.heap.size w w' := by
  have SH := Lib.hid (fun W => ishown_any HPU HHA W)
  have hd : decide ((100 : Int) < (l.length : Int)) = true := by simp; omega
  clear HPU HHA hn
  go_enter Try.func4, Try.ntmps4
  go_wp2_with fail
  refine (SH.out _).mono ?_
  rintro e w1 ⟨rfl, b1⟩
  have B1 := Lib.hid b1
  clear b1
  go_wp2_with fail
  go_ret
  exact ⟨rfl, B1.out⟩
set_option maxRecDepth 20000 in
set_option maxHeartbeats 8000000 in
theorem rcLast_m (HPU : RPutOk) (HHA : RHasOk) (A : Option Addr) (c : Nat) (l : List (IntV .u8)) (g k : IntV .u8) (w : World) (hl : RowIn (enc1 .u8) 1 w w.heap.size A c l) (hn : l.length ≤ 100) :
    Calls Try.prog 4 #[.slice A l.length c, .int .u8 g.1, .int .u8 k.1] w fun e w' => e = .returned (.bool true) ∧ Below w.heap.size w w' := by
  have SH := Lib.hid (fun W => ishown_any HPU HHA W)
  have HL := Lib.hid hl
  have HN := Lib.hid hn
  have hmm := @run_makeMap Try.prog
  have hgr := wf_u8i g
  have hkr := wf_u8i k
  obtain ⟨G, hG⟩ := Int.eq_ofNat_of_zero_le hgr.1
  have HG := Lib.hid (show G < 256 by omega)
  have HKR := Lib.hid hkr
  have HGZ := Lib.hid (show g.1 = (G : Int) from hG)
  have hgw : IntKind.u64.wrap g.1 = g.1 := by rw [IntKind.wrap_u64]; omega
  have hd : decide ((100 : Int) < (l.length : Int)) = false := by simp; omega
  have HPU2 := Lib.hid HPU
  have HHA2 := Lib.hid HHA
  have ZB := Lib.hid (show ∀ w, (zeroValue 4).run Try.prog w = .ok (.bool false) w from fun w => zeroV_of (by kernel_rfl) w)
  clear HPU HHA hl hgr hkr hG
  go_enter Try.func4, Try.ntmps4
  go_wp2_with fail
  refine (SH.out _).mono ?_
  rintro e w1 ⟨rfl, b1⟩
  have B1 := Lib.hid b1
  clear b1
  go_wp2_with fail
  have B2 := Lib.hid (show Below w.heap.size w (w1.alloc (.cells #[] 40)) from B1.out.trans (((Below.refl _ _).alloc (Nat.le_refl _) _).mono B1.out.size))
  go_loopw [7, 8, 9] (fun so sn si wr => ∃ (j : Nat) (A1 : Option Addr) (c1 : Nat) (ti : Int), so = .slice A1 (lastL (histL l G j)).length c1 ∧ sn = .int .u64 ti ∧ si = .int .i64 j ∧ j ≤ l.length ∧ Hid (ti = ((G * j : Nat) : Int)) ∧ Hid (RowIn (encKI .u64) 33 wr wr.heap.size A1 c1 (lastL (histL l G j))) ∧ Hid (Below w.heap.size w wr)) (fun _ _ si _ => l.length - (intOf si).toNat)
  case atStart => exact ⟨0, _, 0, 0, rfl, rfl, rfl, Nat.zero_le _, Lib.hid (by simp), Lib.hid (RowIn.nil (Nat.zero_le _)), B2⟩
  case round =>
    clear B2
    obtain ⟨j, A1, c1, ti, rfl, rfl, rfl, hj, HT, RR, HB⟩ := hrel
    have HLM := Lib.hid (fun i => show (lastL (histL l G i)).length ≤ 5 by unfold lastL; rw [List.length_reverse, List.length_take]; omega)
    by_cases hlt : j < l.length
    · have hd : decide ((j : Int) < (l.length : Int)) = true := by simp; omega
      have hi0 : (0 : Int) ≤ (j : Int) := by omega
      have hi1 : (j : Int) < (l.length : Int) := by omega
      obtain ⟨g1, o1, hA, hg1, hc⟩ := (HL.out.below HB.out).at (enc1_len _) hlt
      obtain ⟨x, hx⟩ : ∃ x, l[j]'hlt = x := ⟨_, rfl⟩
      rw [hx] at hc
      have k1 : wr.cell? ⟨g1, o1 + j, none⟩ = some (.int .u8 x.1) := by have := hc.head; simpa using this
      have hgd : (l.getD j u8z) = x := by rw [List.getD_eq_getElem?_getD, List.getElem?_eq_getElem hlt, hx]; rfl
      have htm := time_le (G := G) (i := j + 1) HG.out (by omega)
      have htm0 := time_le (G := G) (i := j) HG.out (by omega)
      have hmul : G * (j + 1) = G * j + G := Nat.mul_succ G j
      obtain ⟨t2, ht2⟩ : ∃ t : Int, t = ((G * (j + 1) : Nat) : Int) := ⟨_, rfl⟩
      have HT2 := Lib.hid ht2
      have hw : IntKind.u64.wrap (ti + g.1) = t2 := by rw [IntKind.wrap_u64, HT.out, HGZ.out, ht2, hmul]; omega
      have HP := Lib.hid (show Calls Try.prog 10 #[.slice A1 (lastL (histL l G j)).length c1, .agg (encK (kOf x.1)).toArray, .int .u64 t2] wr fun e w' => ∃ A' c', e = .returned (.slice A' (lastL (histL l G (j + 1))).length c') ∧ RowIn (encKI .u64) 33 w' w'.heap.size A' c' (lastL (histL l G (j + 1))) ∧ Below wr.heap.size wr w' from by
        have h6 := HPU2.out A1 c1 (lastL (histL l G j)) (kOf x.1) (tmG (G * (j + 1))) wr RR.out (by have := HLM.out j; omega)
        rw [lastL_put, tmG_val (by omega), ← ht2] at h6
        rw [show histL l G (j + 1) = (kOf x.1, tmG (G * (j + 1))) :: histL l G j by rw [histL, hgd]]
        exact h6)
      have HJ := Lib.hid (show j + 1 ≤ l.length from hlt)
      have HXR := Lib.hid (wf_u8i x)
      obtain ⟨v, hv⟩ : ∃ v, x.1 = v := ⟨_, rfl⟩
      rw [hv] at k1 HP HXR
      subst hA
      clear hc hx hg1 hlt hgd htm htm0 hmul hv ht2
      go_wp2_with ((with_reducible refine at_build 38 ?_); try refine wpList_unguard (by rfl) ?_; refine wpList_built rfl 24 #[(0, .tmp 37)] rfl (encK (kOf v)).toArray ((congrArg (Try.prog.built 24) (show _ = [(0, Value.int .u8 v)] by kernel_rfl)).trans (kOf_built v HXR.out)) ?_)
      with_reducible refine HP.out.mono ?_
      rintro e w3 ⟨A3, c3, rfl, r3, b3⟩
      have R3 := Lib.hid r3
      have B3 := Lib.hid (HB.out.trans (b3.mono HB.out.size))
      obtain ⟨L3, hL3⟩ : ∃ L3, (lastL (histL l G (j + 1))) = L3 := ⟨_, rfl⟩
      have HL3 := Lib.hid hL3
      have hb5 := HLM.out (j + 1)
      rw [hL3] at R3 hb5 ⊢
      have h5 : decide ((5 : Int) < ((L3.length : Nat) : Int)) = false := by simp; omega
      clear hL3
      clear r3 b3 RR HB HP hw k1
      go_wp2_with fail
      go_roundw
      case rel => exact ⟨j + 1, A3, c3, t2, by rw [HL3.out], rfl, by go_num, HJ.out, HT2, by rw [HL3.out]; exact R3, B3⟩
      case measure => have := HJ.out; simp [intOf]; omega
    · have hd : decide ((j : Int) < (l.length : Int)) = false := by simp; omega
      obtain rfl : j = l.length := by omega
      obtain ⟨n, hnn⟩ : ∃ n, l.length = n := ⟨_, rfl⟩
      have HNN := Lib.hid hnn
      rw [hnn] at RR HN hn hd HT ⊢
      have hw1 : wrap64 ((n : Int) - 1) = (n : Int) - 1 := by unfold wrap64; omega
      obtain ⟨L, hL⟩ : ∃ L, (lastL (histL l G n)) = L := ⟨_, rfl⟩
      have HLL := Lib.hid hL
      have HL5 := Lib.hid (show L.length ≤ 5 from hL ▸ HLM.out n)
      rw [hL] at RR ⊢
      clear hL hj hlt hnn HLM
      go_wp2_with fail
      obtain ⟨wq, hwq⟩ : ∃ q, q = wr := ⟨_, rfl⟩
      rw [← hwq] at RR HB ⊢
      clear hwq
      have M0 := Lib.hid (show MapU .u8 (wq.alloc (.map #[] 0)) wq.heap.size [] from MapU.new wq)
      have BQ := Lib.hid (show Below wq.heap.size wq (wq.alloc (.map #[] 0)) from (Below.refl _ _).alloc (Nat.le_refl _) _)
      go_loopw [11, 12] (fun sa si wr => ∃ (rm : Nat) (As : List ItV) (s : List Int) (ta : Int), si = .int .i64 ((rm : Int) - 1) ∧ sa = .int .u64 ta ∧ rm ≤ n ∧ Hid (ta = ((G * rm : Nat) : Int)) ∧ Hid (histL l G n = As ++ histL l G rm ∧ SeenS kOf As s ∧ ∀ y ∈ s, 0 ≤ y ∧ y < 256) ∧ Hid (MapU .u8 wr wq.heap.size s) ∧ Hid (Below wq.heap.size wq wr)) (fun _ si _ => (intOf si + 1).toNat)
      case atStart => exact ⟨n, [], [], ti, rfl, rfl, Nat.le_refl _, HT, Lib.hid ⟨rfl, SeenS.nil _, fun y hy => by cases hy⟩, M0, BQ⟩
      case round =>
        clear M0 BQ
        obtain ⟨rm, As, s, ta, rfl, rfl, hrm, HTA, HS, HM, BQ⟩ := hrel
        have BX := Lib.hid (HB.out.trans (BQ.out.mono HB.out.size))
        have RX := Lib.hid ((RR.out.below BQ.out).more BQ.out.size)
        cases rm with
        | zero =>
          have hge : decide ((0 : Int) ≤ ((0 : Nat) : Int) - 1) = false := by decide
          have e1 : ((0 : Nat) : Int) - 1 = -1 := rfl
          rw [e1]
          by_cases hks : k.1 ∈ s
          · have HD := Lib.hid (show decide (k.1 ∈ s) = true from decide_eq_true hks)
            clear hks
            go_wp2_with ((with_reducible refine at_lookU 88 89 ?_); refine wpList_lookU (by rfl) (.tmp 88) (.tmp 89) rfl HM.out Try.underlying37 Try.underlying5 ZB.out rfl k.1 rfl true HD.out ?_)
            go_ret
            exact ⟨by first | rfl | simp, BX.out⟩
          · have HD := Lib.hid (show decide (k.1 ∈ s) = false from decide_eq_false hks)
            have HA := Lib.hid (show Calls Try.prog 12 #[.slice A1 L.length c1, .agg (encK (kOf k.1)).toArray, .int .u64 ti] wr fun e w' => e = .returned (.bool false) ∧ Below wr.heap.size wr w' from by
              have h6 := HHA2.out A1 c1 L (kOf k.1) (tmG (G * n)) wr RX.out (by have := HL5.out; omega)
              have htm := time_le (G := G) (i := n) HG.out (by omega)
              have hA : histL l G n = As := by have := HS.out.1; rw [this]; show As ++ [] = As; simp
              rw [tmG_val (by omega), ← HT.out, ← HLL.out, hA, SeenS.none_ HS.out.2.1 (fun y hy e => kOf_inj (HS.out.2.2 y hy) HKR.out e) hks] at h6
              rw [← HLL.out, hA]
              exact h6)
            clear hks
            go_wp2_with (first
              | ((with_reducible refine at_lookU 88 89 ?_); refine wpList_lookU (by rfl) (.tmp 88) (.tmp 89) rfl HM.out Try.underlying37 Try.underlying5 ZB.out rfl k.1 rfl false HD.out ?_)
              | ((with_reducible refine at_build 94 ?_); try refine wpList_unguard (by rfl) ?_; refine wpList_built rfl 24 #[(0, .tmp 93)] rfl (encK (kOf k.1)).toArray ((congrArg (Try.prog.built 24) (show _ = [(0, Value.int .u8 k.1)] by kernel_rfl)).trans (kOf_built k.1 HKR.out)) ?_))
            refine HA.out.mono ?_
            rintro e w3 ⟨rfl, b3⟩
            have B3 := Lib.hid (BX.out.trans (b3.mono BX.out.size))
            clear b3
            go_wp2_with fail
            go_ret
            exact ⟨by first | rfl | simp, B3.out⟩
        | succ m =>
          have e1 : ((m + 1 : Nat) : Int) - 1 = (m : Int) := by omega
          rw [e1]
          have hmn : m < l.length := by rw [HNN.out]; omega
          obtain ⟨g1, o1, hA, hg1, hc⟩ := (HL.out.below BX.out).at (enc1_len _) hmn
          obtain ⟨x, hx⟩ : ∃ x, l[m]'hmn = x := ⟨_, rfl⟩
          rw [hx] at hc
          have k1 : wr.cell? ⟨g1, o1 + m, none⟩ = some (.int .u8 x.1) := by have := hc.head; simpa using this
          have HK1 := Lib.hid (And.intro hg1 k1)
          have hgd : (l.getD m u8z) = x := by rw [List.getD_eq_getElem?_getD, List.getElem?_eq_getElem hmn, hx]; rfl
          have hi0 : (0 : Int) ≤ (m : Int) := by omega
          have hi1 : (m : Int) < (n : Int) := by omega
          have htm := time_le (G := G) (i := m + 1) HG.out (by omega)
          have htn := time_le (G := G) (i := n) HG.out (by omega)
          have hmul : G * (m + 1) = G * m + G := Nat.mul_succ G m
          have hle : G * (m + 1) ≤ G * n := Nat.mul_le_mul_left _ (by omega)
          have hta := HTA.out
          have hti := HT.out
          have hgz := HGZ.out
          obtain ⟨t2, ht2⟩ : ∃ t : Int, t = ((G * m : Nat) : Int) := ⟨_, rfl⟩
          have HT2 := Lib.hid ht2
          have hw2 : IntKind.u64.wrap (ta - g.1) = t2 := by rw [IntKind.wrap_u64, hta, hgz, ht2, hmul]; omega
          have hw3 : IntKind.u64.wrap (ti - ta) = ti - ta := by rw [IntKind.wrap_u64, hta, hti]; omega
          have hw4 : wrap64 ((m : Int) - 1) = (m : Int) - 1 := by unfold wrap64; omega
          obtain ⟨y, hy⟩ : ∃ y, decide (ti - ta < 60) = y := ⟨_, rfl⟩
          have hyo : youngF (kOf x.1, tmG (G * (m + 1))) ti = y := by
            rw [← hy]
            unfold youngF
            simp only
            rw [tmG_val (by omega), ← hta, decide_eq_false (show ¬ (18446744073709551555 : Int) < ta by rw [hta]; omega), Bool.false_or, decide_eq_decide]
            omega
          have hH : histL l G n = As ++ (kOf x.1, tmG (G * (m + 1))) :: histL l G m := by
            rw [HS.out.1, histL, hgd]
          have HH2 := Lib.hid (show histL l G n = (As ++ [(kOf x.1, tmG (G * (m + 1)))]) ++ histL l G m by rw [hH]; simp)
          have HXR := Lib.hid (wf_u8i x)
          have hrm2 : m ≤ n := by omega
          have HM2 := Lib.hid hrm2
          have hinj : ∀ z ∈ s, kOf z = kOf x.1 → z = x.1 := fun z hz e => kOf_inj (HS.out.2.2 z hz) HXR.out e
          by_cases hxs : x.1 ∈ s
          · have HD := Lib.hid (show decide (x.1 ∈ s) = true from decide_eq_true hxs)
            have HS2 := Lib.hid (HS.out.2.1.skip (t := tmG (G * (m + 1))) (.inl hxs))
            obtain ⟨v, hv⟩ : ∃ v, x.1 = v := ⟨_, rfl⟩
            rw [hv] at k1 HD HS2 HH2 HXR HK1
            subst hA
            clear hc hx hg1 hmn hgd htm htn hmul hle hta hti hgz ht2 hyo hH hinj hxs hrm hv hrm2
            go_wp2_with ((with_reducible refine at_lookU 57 61 ?_); refine wpList_lookU (by rfl) (.tmp 57) (.tmp 61) rfl HM.out Try.underlying37 Try.underlying5 ZB.out rfl v rfl true HD.out ?_)
            go_roundw
            case rel => exact ⟨m, _, s, t2, rfl, rfl, HM2.out, HT2, Lib.hid ⟨HH2.out, HS2.out, HS.out.2.2⟩, HM, BQ⟩
            case measure => simp [intOf]
          · by_cases hl5 : s.length < 5
            · have HD := Lib.hid (show decide (x.1 ∈ s) = false from decide_eq_false hxs)
              have hlen := fun ty => HM.out.len (P := Try.prog) Try.underlying37 ty
              have hd5 : decide ((s.length : Int) < 5) = true := by simp; omega
              have hfr := HS.out.2.1.fresh (B := histL l G m) (t := tmG (G * (m + 1))) hinj hxs hl5 ti
              have HS2 := Lib.hid hfr.2
              have HXS := Lib.hid hxs
              have HA := Lib.hid (show Calls Try.prog 12 #[.slice A1 L.length c1, .agg (encK (kOf x.1)).toArray, .int .u64 ti] wr fun e w' => e = .returned (.bool y) ∧ Below wr.heap.size wr w' from by
                have h6 := HHA2.out A1 c1 L (kOf x.1) (tmG (G * n)) wr RX.out (by have := HL5.out; omega)
                rw [tmG_val (by omega), ← hti, ← HLL.out, hH, hfr.1, hyo] at h6
                rw [← HLL.out, hH]
                exact h6)
              have HB5 := Lib.hid (show ∀ z ∈ s ++ [x.1], 0 ≤ z ∧ z < 256 from fun z hz => by
                rcases List.mem_append.1 hz with h | h
                · exact HS.out.2.2 z h
                · rw [List.mem_singleton.1 h]; exact HXR.out)
              obtain ⟨v, hv⟩ : ∃ v, x.1 = v := ⟨_, rfl⟩
              rw [hv] at k1 HD HS2 HH2 HXR HK1 HXS HA HB5
              subst hA
              clear hc hx hg1 hmn hgd htm htn hmul hle hta hti hgz ht2 hyo hH hinj hxs hrm hv hl5 hfr hrm2
              go_wp2_with (first
                | ((with_reducible refine at_lookU 57 61 ?_); refine wpList_lookU (by rfl) (.tmp 57) (.tmp 61) rfl HM.out Try.underlying37 Try.underlying5 ZB.out rfl v rfl false HD.out ?_)
                | ((with_reducible refine at_build 74 ?_); try refine wpList_unguard (by rfl) ?_; refine wpList_built rfl 24 #[(0, .tmp 73)] rfl (encK (kOf v)).toArray ((congrArg (Try.prog.built 24) (show _ = [(0, Value.int .u8 v)] by kernel_rfl)).trans (kOf_built v HXR.out)) ?_))
              with_reducible refine HA.out.mono ?_
              rintro e w3 ⟨rfl, b3⟩
              have BX3 := Lib.hid (BX.out.trans (b3.mono BX.out.size))
              have BQ3 := Lib.hid (BQ.out.trans (b3.mono BQ.out.size))
              have HM3 := Lib.hid (HM.out.below b3 HM.out.lt)
              have k3 : w3.cell? ⟨g1, o1 + m, none⟩ = some (.int .u8 v) := (b3.cell (p := ⟨g1, o1 + m, none⟩) (Nat.lt_of_lt_of_le HK1.out.1 BX.out.size)).trans HK1.out.2
              clear b3 BX HM hlen k1
              go_wp2_with ((with_reducible refine at_updU 79 83 ?_); refine wpList_updU rfl (.tmp 79) (.tmp 83) (.const (.bool true)) rfl HM3.out Try.underlying37 Try.underlying5 rfl v rfl rfl HXS.out ?_; intro w4 o4 m4; have HM4 := Lib.hid m4; have BQ4 := Lib.hid (BQ3.out.trans (o4.below (by simp))); clear o4 m4)
              go_roundw
              case rel => exact ⟨m, _, s ++ [v], t2, rfl, rfl, HM2.out, HT2, Lib.hid ⟨HH2.out, HS2.out, HB5.out⟩, HM4, BQ4⟩
              case measure => simp [intOf]
            · have HD := Lib.hid (show decide (x.1 ∈ s) = false from decide_eq_false hxs)
              have hlen := fun ty => HM.out.len (P := Try.prog) Try.underlying37 ty
              have hd5 : decide ((s.length : Int) < 5) = false := by simp; omega
              have HS2 := Lib.hid (HS.out.2.1.skip (z := x.1) (t := tmG (G * (m + 1))) (.inr hl5))
              obtain ⟨v, hv⟩ : ∃ v, x.1 = v := ⟨_, rfl⟩
              rw [hv] at k1 HD HS2 HH2 HXR HK1
              subst hA
              clear hc hx hg1 hmn hgd htm htn hmul hle hta hti hgz ht2 hyo hH hinj hxs hrm hv hrm2
              go_wp2_with ((with_reducible refine at_lookU 57 61 ?_); refine wpList_lookU (by rfl) (.tmp 57) (.tmp 61) rfl HM.out Try.underlying37 Try.underlying5 ZB.out rfl v rfl false HD.out ?_)
              go_roundw
              case rel => exact ⟨m, _, s, t2, rfl, rfl, HM2.out, HT2, Lib.hid ⟨HH2.out, HS2.out, HS.out.2.2⟩, HM, BQ⟩
              case measure => simp [intOf]
set_option maxRecDepth 20000 in
set_option maxHeartbeats 8000000 in
theorem rcLast_walk (HPU : RPutOk) (HHA : RHasOk) (A : Option Addr) (c : Nat) (l : List (IntV .u8)) (g k : IntV .u8) (w : World) (hl : RowIn (enc1 .u8) 1 w w.heap.size A c l) :
    Calls Try.prog 4 #[.slice A l.length c, .int .u8 g.1, .int .u8 k.1] w fun e w' => e = .returned (.bool true) ∧ Below w.heap.size w w' := by
  by_cases h : 100 < l.length
  · exact rcLast_h HPU HHA A c l g k w h
  · exact rcLast_m HPU HHA A c l g k w hl (by omega)
end Go.Proofs.Ytiboelfakajohaa
