/- The statements' walks of layer 12. Written by genLE.py. -/
import Derived.Test.YtjfhmnamiipgbaaExpA
namespace Go.Proofs.Ytjfhmnamiipgbaa
open Go.RowKit
set_option maxRecDepth 20000 in
set_option maxHeartbeats 2000000 in
theorem etells_walk (HLF : LeftOk) (HCH : ChkOk) (HEX : ExpdOk) (HSO : SoonOk) (e at' : Int) (w : World) (he : isU32 e) (ha : isU32 at') :
    Calls Try.prog 3 #[.int .u32 e, .int .u32 at'] w fun x w' => x = .returned (.bool true) ∧ Below w.heap.size w w' := by
  have SH := Lib.hid (fun W => eshown_any HEX HCH W)
  unfold LeftOk at HLF
  unfold ChkOk at HCH
  unfold ExpdOk at HEX
  unfold SoonOk at HSO
  have HL := Lib.hid HLF
  have HC := Lib.hid HCH
  have HE := Lib.hid HEX
  have HS := Lib.hid HSO
  clear HLF HCH HEX HSO
  have B0 := Lib.hid (Below.refl w.heap.size w)
  have hE := Lib.hid he
  have hA := Lib.hid ha
  clear he ha
  go_enter Try.func3, Try.ntmps3
  go_wp2_with fail
  refine (HL.out e at' _ (hE.out) (hA.out)).mono ?_
  rintro x w1 ⟨rfl, bq⟩
  have B1 := Lib.hid (B0.out.trans (bq.mono B0.out.size))
  clear bq B0
  go_wp2_with fail
  refine (rLeft_e e at' _ (hE.out) (hA.out)).mono ?_
  rintro x w2 ⟨rfl, bq⟩
  have B2 := Lib.hid (B1.out.trans (bq.mono B1.out.size))
  clear bq B1
  go_wp2_with fail
  refine (HC.out e _ hE.out).mono ?_
  rintro x w3 ⟨rfl, bq⟩
  have B3 := Lib.hid (B2.out.trans (bq.mono B2.out.size))
  clear bq B2
  go_wp2_with fail
  refine (rChk_e e _).mono ?_
  rintro x w4 ⟨rfl, bq⟩
  have B4 := Lib.hid (B3.out.trans (bq.mono B3.out.size))
  clear bq B3
  go_wp2_with fail
  refine (HE.out e at' _ (hE.out) (hA.out)).mono ?_
  rintro x w5 ⟨rfl, bq⟩
  have B5 := Lib.hid (B4.out.trans (bq.mono B4.out.size))
  clear bq B4
  go_wp2_with fail
  refine (rExp_e e at' _).mono ?_
  rintro x w6 ⟨rfl, bq⟩
  have B6 := Lib.hid (B5.out.trans (bq.mono B5.out.size))
  clear bq B5
  go_wp2_with fail
  refine (HS.out e at' _ (hE.out) (hA.out)).mono ?_
  rintro x w7 ⟨rfl, bq⟩
  have B7 := Lib.hid (B6.out.trans (bq.mono B6.out.size))
  clear bq B6
  go_wp2_with fail
  refine (rSoon_e e at' _ (hE.out) (hA.out)).mono ?_
  rintro x w8 ⟨rfl, bq⟩
  have B8 := Lib.hid (B7.out.trans (bq.mono B7.out.size))
  clear bq B7
  go_wp2_with fail
  refine (SH.out _).mono ?_
  rintro x w9 ⟨rfl, bq⟩
  have B9 := Lib.hid (B8.out.trans (bq.mono B8.out.size))
  clear bq B8
  go_wp2_with fail
  go_ret
  exact ⟨rfl, B9.out⟩
set_option maxRecDepth 20000 in
set_option maxHeartbeats 2000000 in
theorem enever_t (HLF : LeftOk) (HCH : ChkOk) (HEX : ExpdOk) (HSO : SoonOk) (at' e : Int) (w : World) (ha : isU32 at') (he : isU32 e) (hb : decide (e ≤ 499999999) = true) :
    Calls Try.prog 6 #[.int .u32 at', .int .u32 e] w fun x w' => x = .returned (.bool true) ∧ Below w.heap.size w w' := by
  have SH := Lib.hid (fun W => eshown_any HEX HCH W)
  unfold LeftOk at HLF
  unfold ChkOk at HCH
  unfold ExpdOk at HEX
  unfold SoonOk at HSO
  have HL := Lib.hid HLF
  have HC := Lib.hid HCH
  have HE := Lib.hid HEX
  have HS := Lib.hid HSO
  clear HLF HCH HEX HSO
  have B0 := Lib.hid (Below.refl w.heap.size w)
  have hE := Lib.hid he
  have hA := Lib.hid ha
  have HK := Lib.hid (show chkF e = 0 by have := of_decide_eq_true hb; unfold chkF; rw [if_neg (by omega)])
  clear he ha
  go_enter Try.func6, Try.ntmps6
  go_wp2_with fail
  refine (HL.out 0 at' _ ⟨by omega, by omega⟩ hA.out).mono ?_
  rintro x w1 ⟨rfl, bq⟩
  rw [show leftF 0 at' = (0, false) from if_pos rfl]
  have B1 := Lib.hid (B0.out.trans (bq.mono B0.out.size))
  clear bq B0
  go_wp2_with fail
  refine (HE.out 0 at' _ ⟨by omega, by omega⟩ hA.out).mono ?_
  rintro x w2 ⟨rfl, bq⟩
  rw [show expF 0 at' = false from rfl]
  have B2 := Lib.hid (B1.out.trans (bq.mono B1.out.size))
  clear bq B1
  go_wp2_with fail
  refine (HS.out 0 at' _ ⟨by omega, by omega⟩ hA.out).mono ?_
  rintro x w3 ⟨rfl, bq⟩
  rw [show soonF 0 at' = false from rfl]
  have B3 := Lib.hid (B2.out.trans (bq.mono B2.out.size))
  clear bq B2
  go_wp2_with fail
  refine (HC.out 0 _ ⟨by omega, by omega⟩).mono ?_
  rintro x w4 ⟨rfl, bq⟩
  rw [show chkF 0 = 0 from rfl]
  have B4 := Lib.hid (B3.out.trans (bq.mono B3.out.size))
  clear bq B3
  go_wp2_with fail
  refine (HC.out e _ hE.out).mono ?_
  rintro x w5 ⟨rfl, bq⟩
  rw [HK.out]
  have B5 := Lib.hid (B4.out.trans (bq.mono B4.out.size))
  clear bq B4
  go_wp2_with fail
  refine (SH.out _).mono ?_
  rintro x w6 ⟨rfl, bq⟩
  have B6 := Lib.hid (B5.out.trans (bq.mono B5.out.size))
  clear bq B5
  go_wp2_with fail
  go_ret
  exact ⟨rfl, B6.out⟩
set_option maxRecDepth 20000 in
set_option maxHeartbeats 2000000 in
theorem enever_f (HLF : LeftOk) (HCH : ChkOk) (HEX : ExpdOk) (HSO : SoonOk) (at' e : Int) (w : World) (ha : isU32 at') (he : isU32 e) (hb : decide (e ≤ 499999999) = false) :
    Calls Try.prog 6 #[.int .u32 at', .int .u32 e] w fun x w' => x = .returned (.bool true) ∧ Below w.heap.size w w' := by
  have SH := Lib.hid (fun W => eshown_any HEX HCH W)
  unfold LeftOk at HLF
  unfold ChkOk at HCH
  unfold ExpdOk at HEX
  unfold SoonOk at HSO
  have HL := Lib.hid HLF
  have HC := Lib.hid HCH
  have HE := Lib.hid HEX
  have HS := Lib.hid HSO
  clear HLF HCH HEX HSO
  have B0 := Lib.hid (Below.refl w.heap.size w)
  have hE := Lib.hid he
  have hA := Lib.hid ha
  have HK := Lib.hid (show chkF e = 120 by have := of_decide_eq_false hb; unfold chkF; rw [if_pos (by omega)])
  clear he ha
  go_enter Try.func6, Try.ntmps6
  go_wp2_with fail
  refine (HL.out 0 at' _ ⟨by omega, by omega⟩ hA.out).mono ?_
  rintro x w1 ⟨rfl, bq⟩
  rw [show leftF 0 at' = (0, false) from if_pos rfl]
  have B1 := Lib.hid (B0.out.trans (bq.mono B0.out.size))
  clear bq B0
  go_wp2_with fail
  refine (HE.out 0 at' _ ⟨by omega, by omega⟩ hA.out).mono ?_
  rintro x w2 ⟨rfl, bq⟩
  rw [show expF 0 at' = false from rfl]
  have B2 := Lib.hid (B1.out.trans (bq.mono B1.out.size))
  clear bq B1
  go_wp2_with fail
  refine (HS.out 0 at' _ ⟨by omega, by omega⟩ hA.out).mono ?_
  rintro x w3 ⟨rfl, bq⟩
  rw [show soonF 0 at' = false from rfl]
  have B3 := Lib.hid (B2.out.trans (bq.mono B2.out.size))
  clear bq B2
  go_wp2_with fail
  refine (HC.out 0 _ ⟨by omega, by omega⟩).mono ?_
  rintro x w4 ⟨rfl, bq⟩
  rw [show chkF 0 = 0 from rfl]
  have B4 := Lib.hid (B3.out.trans (bq.mono B3.out.size))
  clear bq B3
  go_wp2_with fail
  refine (HC.out e _ hE.out).mono ?_
  rintro x w5 ⟨rfl, bq⟩
  rw [HK.out]
  have B5 := Lib.hid (B4.out.trans (bq.mono B4.out.size))
  clear bq B4
  go_wp2_with fail
  refine (SH.out _).mono ?_
  rintro x w6 ⟨rfl, bq⟩
  have B6 := Lib.hid (B5.out.trans (bq.mono B5.out.size))
  clear bq B5
  go_wp2_with fail
  go_ret
  exact ⟨rfl, B6.out⟩
theorem enever_walk (HLF : LeftOk) (HCH : ChkOk) (HEX : ExpdOk) (HSO : SoonOk) (at' e : Int) (w : World) (ha : isU32 at') (he : isU32 e) :
    Calls Try.prog 6 #[.int .u32 at', .int .u32 e] w fun x w' => x = .returned (.bool true) ∧ Below w.heap.size w w' := by
  cases hb : decide (e ≤ 499999999) with
  | true => exact enever_t HLF HCH HEX HSO at' e w ha he hb
  | false => exact enever_f HLF HCH HEX HSO at' e w ha he hb
set_option maxRecDepth 20000 in
set_option maxHeartbeats 2000000 in
theorem estays_z (HLF : LeftOk) (HCH : ChkOk) (HEX : ExpdOk) (HSO : SoonOk) (e a b : Int) (w : World) (he : isU32 e) (ha : isU32 a) (hb : isU32 b) (hc : e = 0) :
    Calls Try.prog 4 #[.int .u32 e, .int .u32 a, .int .u32 b] w fun x w' => x = .returned (.bool true) ∧ Below w.heap.size w w' := by
  have SH := Lib.hid (fun W => eshown_any HEX HCH W)
  unfold LeftOk at HLF
  unfold ChkOk at HCH
  unfold ExpdOk at HEX
  unfold SoonOk at HSO
  have HL := Lib.hid HLF
  have HC := Lib.hid HCH
  have HE := Lib.hid HEX
  have HS := Lib.hid HSO
  clear HLF HCH HEX HSO
  have B0 := Lib.hid (Below.refl w.heap.size w)
  have hE := Lib.hid he
  obtain ⟨lo, hlo⟩ : ∃ lo, min a b = lo := ⟨_, rfl⟩
  obtain ⟨hi, hhi⟩ : ∃ hi, max a b = hi := ⟨_, rfl⟩
  try rw [hlo] at hc
  have hO := Lib.hid (show isU32 lo by unfold isU32 at *; omega)
  have hI := Lib.hid (show isU32 hi by unfold isU32 at *; omega)
  have hle : lo ≤ hi := by omega
  have hmn : ∀ W ts t, (Builtin.min_ ts t #[.int .u32 a, .int .u32 b]).run Try.prog W = .ok (.int .u32 lo) W := fun W ts t => by
    rw [run_min_int2]
    congr 2
    split <;> omega
  have hmx : ∀ W ts t, (Builtin.max_ ts t #[.int .u32 a, .int .u32 b]).run Try.prog W = .ok (.int .u32 hi) W := fun W ts t => by
    rw [run_max_int2]
    congr 2
    split <;> omega
  have hU := hO.out
  have hV := hE.out
  unfold isU32 at hU hV
  have HLF := Lib.hid (show leftF e lo = (0, false) from by unfold leftF; rw [if_pos hc])
  have HX1 := Lib.hid (show expF e lo = false from by unfold expF; rw [hc]; rfl)
  have HS1 := Lib.hid (show soonF e lo = false from by unfold soonF; rw [hc]; rfl)
  have g1 : (e != 0) = false := by rw [hc]; rfl
  clear he ha hb hlo hhi hc hU hV
  go_enter Try.func4, Try.ntmps4
  go_wp2_with fail
  refine (HL.out e lo _ hE.out hO.out).mono ?_
  rintro x w1 ⟨rfl, bq⟩
  rw [HLF.out]
  have B1 := Lib.hid (B0.out.trans (bq.mono B0.out.size))
  clear bq B0
  go_wp2_with fail
  refine (HE.out e lo _ hE.out hO.out).mono ?_
  rintro x w2 ⟨rfl, bq⟩
  rw [HX1.out]
  have B2 := Lib.hid (B1.out.trans (bq.mono B1.out.size))
  clear bq B1
  go_wp2_with fail
  refine (HS.out e lo _ hE.out hO.out).mono ?_
  rintro x w3 ⟨rfl, bq⟩
  rw [HS1.out]
  have B3 := Lib.hid (B2.out.trans (bq.mono B2.out.size))
  clear bq B2
  go_wp2_with fail
  refine (SH.out _).mono ?_
  rintro x w4 ⟨rfl, bq⟩
  have B4 := Lib.hid (B3.out.trans (bq.mono B3.out.size))
  clear bq B3
  go_wp2_with fail
  go_ret
  exact ⟨rfl, B4.out⟩
set_option maxRecDepth 20000 in
set_option maxHeartbeats 2000000 in
theorem estays_a (HLF : LeftOk) (HCH : ChkOk) (HEX : ExpdOk) (HSO : SoonOk) (e a b : Int) (w : World) (he : isU32 e) (ha : isU32 a) (hb : isU32 b) (hc : e ≠ 0 ∧ e < min a b) :
    Calls Try.prog 4 #[.int .u32 e, .int .u32 a, .int .u32 b] w fun x w' => x = .returned (.bool true) ∧ Below w.heap.size w w' := by
  have SH := Lib.hid (fun W => eshown_any HEX HCH W)
  unfold LeftOk at HLF
  unfold ChkOk at HCH
  unfold ExpdOk at HEX
  unfold SoonOk at HSO
  have HL := Lib.hid HLF
  have HC := Lib.hid HCH
  have HE := Lib.hid HEX
  have HS := Lib.hid HSO
  clear HLF HCH HEX HSO
  have B0 := Lib.hid (Below.refl w.heap.size w)
  have hE := Lib.hid he
  obtain ⟨lo, hlo⟩ : ∃ lo, min a b = lo := ⟨_, rfl⟩
  obtain ⟨hi, hhi⟩ : ∃ hi, max a b = hi := ⟨_, rfl⟩
  try rw [hlo] at hc
  have hO := Lib.hid (show isU32 lo by unfold isU32 at *; omega)
  have hI := Lib.hid (show isU32 hi by unfold isU32 at *; omega)
  have hle : lo ≤ hi := by omega
  have hmn : ∀ W ts t, (Builtin.min_ ts t #[.int .u32 a, .int .u32 b]).run Try.prog W = .ok (.int .u32 lo) W := fun W ts t => by
    rw [run_min_int2]
    congr 2
    split <;> omega
  have hmx : ∀ W ts t, (Builtin.max_ ts t #[.int .u32 a, .int .u32 b]).run Try.prog W = .ok (.int .u32 hi) W := fun W ts t => by
    rw [run_max_int2]
    congr 2
    split <;> omega
  have hU := hO.out
  have hV := hE.out
  unfold isU32 at hU hV
  have HLF := Lib.hid (show leftF e lo = (0, true) from by unfold leftF; rw [if_neg (by omega), if_pos (by omega)])
  have HX1 := Lib.hid (show expF e lo = true from by unfold expF; rw [decide_eq_true (show e ≠ 0 by omega), decide_eq_true (show e < lo by omega)]; rfl)
  have HS1 := Lib.hid (show soonF e lo = true from by unfold soonF; rw [decide_eq_true (show e ≠ 0 by omega), decide_eq_true (show e < lo + 3 by omega)]; rfl)
  have HX2 := Lib.hid (show expF e hi = true from by unfold expF; rw [decide_eq_true (show e ≠ 0 by omega), decide_eq_true (show e < hi by omega)]; rfl)
  have HS2 := Lib.hid (show soonF e hi = true from by unfold soonF; rw [decide_eq_true (show e ≠ 0 by omega), decide_eq_true (show e < hi + 3 by omega)]; rfl)
  have g1 : (e != 0) = true := bne_iff_ne.2 (by omega)
  clear he ha hb hlo hhi hc hU hV
  go_enter Try.func4, Try.ntmps4
  go_wp2_with fail
  refine (HL.out e lo _ hE.out hO.out).mono ?_
  rintro x w1 ⟨rfl, bq⟩
  rw [HLF.out]
  have B1 := Lib.hid (B0.out.trans (bq.mono B0.out.size))
  clear bq B0
  go_wp2_with fail
  refine (HE.out e lo _ hE.out hO.out).mono ?_
  rintro x w2 ⟨rfl, bq⟩
  rw [HX1.out]
  have B2 := Lib.hid (B1.out.trans (bq.mono B1.out.size))
  clear bq B1
  go_wp2_with fail
  refine (HE.out e hi _ hE.out hI.out).mono ?_
  rintro x w3 ⟨rfl, bq⟩
  rw [HX2.out]
  have B3 := Lib.hid (B2.out.trans (bq.mono B2.out.size))
  clear bq B2
  go_wp2_with fail
  refine (HS.out e lo _ hE.out hO.out).mono ?_
  rintro x w4 ⟨rfl, bq⟩
  rw [HS1.out]
  have B4 := Lib.hid (B3.out.trans (bq.mono B3.out.size))
  clear bq B3
  go_wp2_with fail
  refine (HS.out e lo _ hE.out hO.out).mono ?_
  rintro x w5 ⟨rfl, bq⟩
  rw [HS1.out]
  have B5 := Lib.hid (B4.out.trans (bq.mono B4.out.size))
  clear bq B4
  go_wp2_with fail
  refine (HS.out e hi _ hE.out hI.out).mono ?_
  rintro x w6 ⟨rfl, bq⟩
  rw [HS2.out]
  have B6 := Lib.hid (B5.out.trans (bq.mono B5.out.size))
  clear bq B5
  go_wp2_with fail
  refine (SH.out _).mono ?_
  rintro x w7 ⟨rfl, bq⟩
  have B7 := Lib.hid (B6.out.trans (bq.mono B6.out.size))
  clear bq B6
  go_wp2_with fail
  refine (HS.out e lo _ hE.out hO.out).mono ?_
  rintro x w8 ⟨rfl, bq⟩
  rw [HS1.out]
  have B8 := Lib.hid (B7.out.trans (bq.mono B7.out.size))
  clear bq B7
  go_wp2_with fail
  refine (HE.out e lo _ hE.out hO.out).mono ?_
  rintro x w9 ⟨rfl, bq⟩
  rw [HX1.out]
  have B9 := Lib.hid (B8.out.trans (bq.mono B8.out.size))
  clear bq B8
  go_wp2_with fail
  go_ret
  exact ⟨rfl, B9.out⟩
set_option maxRecDepth 20000 in
set_option maxHeartbeats 2000000 in
theorem estays_b (HLF : LeftOk) (HCH : ChkOk) (HEX : ExpdOk) (HSO : SoonOk) (e a b : Int) (w : World) (he : isU32 e) (ha : isU32 a) (hb : isU32 b) (hc : e ≠ 0 ∧ min a b ≤ e ∧ e < min a b + 3) :
    Calls Try.prog 4 #[.int .u32 e, .int .u32 a, .int .u32 b] w fun x w' => x = .returned (.bool true) ∧ Below w.heap.size w w' := by
  have SH := Lib.hid (fun W => eshown_any HEX HCH W)
  unfold LeftOk at HLF
  unfold ChkOk at HCH
  unfold ExpdOk at HEX
  unfold SoonOk at HSO
  have HL := Lib.hid HLF
  have HC := Lib.hid HCH
  have HE := Lib.hid HEX
  have HS := Lib.hid HSO
  clear HLF HCH HEX HSO
  have B0 := Lib.hid (Below.refl w.heap.size w)
  have hE := Lib.hid he
  obtain ⟨lo, hlo⟩ : ∃ lo, min a b = lo := ⟨_, rfl⟩
  obtain ⟨hi, hhi⟩ : ∃ hi, max a b = hi := ⟨_, rfl⟩
  try rw [hlo] at hc
  have hO := Lib.hid (show isU32 lo by unfold isU32 at *; omega)
  have hI := Lib.hid (show isU32 hi by unfold isU32 at *; omega)
  have hle : lo ≤ hi := by omega
  have hmn : ∀ W ts t, (Builtin.min_ ts t #[.int .u32 a, .int .u32 b]).run Try.prog W = .ok (.int .u32 lo) W := fun W ts t => by
    rw [run_min_int2]
    congr 2
    split <;> omega
  have hmx : ∀ W ts t, (Builtin.max_ ts t #[.int .u32 a, .int .u32 b]).run Try.prog W = .ok (.int .u32 hi) W := fun W ts t => by
    rw [run_max_int2]
    congr 2
    split <;> omega
  have hU := hO.out
  have hV := hE.out
  unfold isU32 at hU hV
  have HLF := Lib.hid (show leftF e lo = (e - lo + 1, true) from by unfold leftF; rw [if_neg (by omega), if_neg (by omega)]; congr 1; omega)
  have HX1 := Lib.hid (show expF e lo = false from by unfold expF; rw [decide_eq_true (show e ≠ 0 by omega), decide_eq_false (show ¬ (e < lo) by omega)]; rfl)
  have HS1 := Lib.hid (show soonF e lo = true from by unfold soonF; rw [decide_eq_true (show e ≠ 0 by omega), decide_eq_true (show e < lo + 3 by omega)]; rfl)
  have HS2 := Lib.hid (show soonF e hi = true from by unfold soonF; rw [decide_eq_true (show e ≠ 0 by omega), decide_eq_true (show e < hi + 3 by omega)]; rfl)
  have g1 : (e != 0) = true := bne_iff_ne.2 (by omega)
  have g2 : decide (e - lo + 1 ≤ 3) = true := by exact decide_eq_true (by omega)
  have g3 : (e - lo + 1 == 0) = false := beq_eq_false_iff_ne.2 (by omega)
  have g4 : (e - lo + 1 != 0) = true := bne_iff_ne.2 (by omega)
  clear he ha hb hlo hhi hc hU hV
  go_enter Try.func4, Try.ntmps4
  go_wp2_with fail
  refine (HL.out e lo _ hE.out hO.out).mono ?_
  rintro x w1 ⟨rfl, bq⟩
  rw [HLF.out]
  have B1 := Lib.hid (B0.out.trans (bq.mono B0.out.size))
  clear bq B0
  go_wp2_with fail
  refine (HE.out e lo _ hE.out hO.out).mono ?_
  rintro x w2 ⟨rfl, bq⟩
  rw [HX1.out]
  have B2 := Lib.hid (B1.out.trans (bq.mono B1.out.size))
  clear bq B1
  go_wp2_with fail
  refine (HS.out e lo _ hE.out hO.out).mono ?_
  rintro x w3 ⟨rfl, bq⟩
  rw [HS1.out]
  have B3 := Lib.hid (B2.out.trans (bq.mono B2.out.size))
  clear bq B2
  go_wp2_with fail
  refine (HS.out e hi _ hE.out hI.out).mono ?_
  rintro x w4 ⟨rfl, bq⟩
  rw [HS2.out]
  have B4 := Lib.hid (B3.out.trans (bq.mono B3.out.size))
  clear bq B3
  go_wp2_with fail
  refine (SH.out _).mono ?_
  rintro x w5 ⟨rfl, bq⟩
  have B5 := Lib.hid (B4.out.trans (bq.mono B4.out.size))
  clear bq B4
  go_wp2_with fail
  refine (HS.out e lo _ hE.out hO.out).mono ?_
  rintro x w6 ⟨rfl, bq⟩
  rw [HS1.out]
  have B6 := Lib.hid (B5.out.trans (bq.mono B5.out.size))
  clear bq B5
  go_wp2_with fail
  refine (HE.out e lo _ hE.out hO.out).mono ?_
  rintro x w7 ⟨rfl, bq⟩
  rw [HX1.out]
  have B7 := Lib.hid (B6.out.trans (bq.mono B6.out.size))
  clear bq B6
  go_wp2_with fail
  go_ret
  exact ⟨rfl, B7.out⟩
set_option maxRecDepth 20000 in
set_option maxHeartbeats 2000000 in
theorem estays_c (HLF : LeftOk) (HCH : ChkOk) (HEX : ExpdOk) (HSO : SoonOk) (e a b : Int) (w : World) (he : isU32 e) (ha : isU32 a) (hb : isU32 b) (hc : e ≠ 0 ∧ min a b + 3 ≤ e) :
    Calls Try.prog 4 #[.int .u32 e, .int .u32 a, .int .u32 b] w fun x w' => x = .returned (.bool true) ∧ Below w.heap.size w w' := by
  have SH := Lib.hid (fun W => eshown_any HEX HCH W)
  unfold LeftOk at HLF
  unfold ChkOk at HCH
  unfold ExpdOk at HEX
  unfold SoonOk at HSO
  have HL := Lib.hid HLF
  have HC := Lib.hid HCH
  have HE := Lib.hid HEX
  have HS := Lib.hid HSO
  clear HLF HCH HEX HSO
  have B0 := Lib.hid (Below.refl w.heap.size w)
  have hE := Lib.hid he
  obtain ⟨lo, hlo⟩ : ∃ lo, min a b = lo := ⟨_, rfl⟩
  obtain ⟨hi, hhi⟩ : ∃ hi, max a b = hi := ⟨_, rfl⟩
  try rw [hlo] at hc
  have hO := Lib.hid (show isU32 lo by unfold isU32 at *; omega)
  have hI := Lib.hid (show isU32 hi by unfold isU32 at *; omega)
  have hle : lo ≤ hi := by omega
  have hmn : ∀ W ts t, (Builtin.min_ ts t #[.int .u32 a, .int .u32 b]).run Try.prog W = .ok (.int .u32 lo) W := fun W ts t => by
    rw [run_min_int2]
    congr 2
    split <;> omega
  have hmx : ∀ W ts t, (Builtin.max_ ts t #[.int .u32 a, .int .u32 b]).run Try.prog W = .ok (.int .u32 hi) W := fun W ts t => by
    rw [run_max_int2]
    congr 2
    split <;> omega
  have hU := hO.out
  have hV := hE.out
  unfold isU32 at hU hV
  obtain ⟨m, hm⟩ : ∃ m, min (e - lo + 1) 4294967295 = m := ⟨_, rfl⟩
  have HLF := Lib.hid (show leftF e lo = (m, true) from by unfold leftF; rw [if_neg (by omega), if_neg (by omega), hm])
  have HX1 := Lib.hid (show expF e lo = false from by unfold expF; rw [decide_eq_true (show e ≠ 0 by omega), decide_eq_false (show ¬ (e < lo) by omega)]; rfl)
  have HS1 := Lib.hid (show soonF e lo = false from by unfold soonF; rw [decide_eq_true (show e ≠ 0 by omega), decide_eq_false (show ¬ (e < lo + 3) by omega)]; rfl)
  have g1 : (e != 0) = true := bne_iff_ne.2 (by omega)
  have g2 : decide (m ≤ 3) = false := by exact decide_eq_false (by omega)
  have g3 : (m == 0) = false := beq_eq_false_iff_ne.2 (by omega)
  have g4 : (m != 0) = true := bne_iff_ne.2 (by omega)
  clear he ha hb hlo hhi hc hU hV
  go_enter Try.func4, Try.ntmps4
  go_wp2_with fail
  refine (HL.out e lo _ hE.out hO.out).mono ?_
  rintro x w1 ⟨rfl, bq⟩
  rw [HLF.out]
  have B1 := Lib.hid (B0.out.trans (bq.mono B0.out.size))
  clear bq B0
  go_wp2_with fail
  refine (HE.out e lo _ hE.out hO.out).mono ?_
  rintro x w2 ⟨rfl, bq⟩
  rw [HX1.out]
  have B2 := Lib.hid (B1.out.trans (bq.mono B1.out.size))
  clear bq B1
  go_wp2_with fail
  refine (HS.out e lo _ hE.out hO.out).mono ?_
  rintro x w3 ⟨rfl, bq⟩
  rw [HS1.out]
  have B3 := Lib.hid (B2.out.trans (bq.mono B2.out.size))
  clear bq B2
  go_wp2_with fail
  refine (SH.out _).mono ?_
  rintro x w4 ⟨rfl, bq⟩
  have B4 := Lib.hid (B3.out.trans (bq.mono B3.out.size))
  clear bq B3
  go_wp2_with fail
  refine (HS.out e lo _ hE.out hO.out).mono ?_
  rintro x w5 ⟨rfl, bq⟩
  rw [HS1.out]
  have B5 := Lib.hid (B4.out.trans (bq.mono B4.out.size))
  clear bq B4
  go_wp2_with fail
  refine (HE.out e lo _ hE.out hO.out).mono ?_
  rintro x w6 ⟨rfl, bq⟩
  rw [HX1.out]
  have B6 := Lib.hid (B5.out.trans (bq.mono B5.out.size))
  clear bq B5
  go_wp2_with fail
  go_ret
  exact ⟨rfl, B6.out⟩
theorem estays_walk (HLF : LeftOk) (HCH : ChkOk) (HEX : ExpdOk) (HSO : SoonOk) (e a b : Int) (w : World) (he : isU32 e) (ha : isU32 a) (hb : isU32 b) :
    Calls Try.prog 4 #[.int .u32 e, .int .u32 a, .int .u32 b] w fun x w' => x = .returned (.bool true) ∧ Below w.heap.size w w' := by
  by_cases h0 : e = 0
  · exact estays_z HLF HCH HEX HSO e a b w he ha hb h0
  by_cases h1 : e < min a b
  · exact estays_a HLF HCH HEX HSO e a b w he ha hb ⟨h0, h1⟩
  by_cases h2 : e < min a b + 3
  · exact estays_b HLF HCH HEX HSO e a b w he ha hb ⟨h0, by omega, h2⟩
  · exact estays_c HLF HCH HEX HSO e a b w he ha hb ⟨h0, by omega⟩
set_option maxRecDepth 20000 in
set_option maxHeartbeats 2000000 in
theorem ecounts_walk (HLF : LeftOk) (HCH : ChkOk) (HEX : ExpdOk) (HSO : SoonOk) (e at' : Int) (w : World) (he : 0 ≤ e ∧ e < 65536) (ha : 0 ≤ at' ∧ at' < 65536) :
    Calls Try.prog 5 #[.int .u16 e, .int .u16 at'] w fun x w' => x = .returned (.bool true) ∧ Below w.heap.size w w' := by
  have SH := Lib.hid (fun W => eshown_any HEX HCH W)
  unfold LeftOk at HLF
  unfold ChkOk at HCH
  unfold ExpdOk at HEX
  unfold SoonOk at HSO
  have HL := Lib.hid HLF
  have HC := Lib.hid HCH
  have HE := Lib.hid HEX
  have HS := Lib.hid HSO
  clear HLF HCH HEX HSO
  have B0 := Lib.hid (Below.refl w.heap.size w)
  obtain ⟨n, hn⟩ : ∃ n : Nat, leftF (e + 1) at' = ((n : Int), true) ∧ (n = 0 ∧ e + 1 < at' ∨ 0 < n ∧ (n : Int) = e + 1 - at' + 1) := by
    by_cases h : e + 1 < at'
    · exact ⟨0, by unfold leftF; rw [if_neg (by omega), if_pos h]; rfl, .inl ⟨rfl, h⟩⟩
    · exact ⟨(e + 1 - at' + 1).toNat, by unfold leftF; rw [if_neg (by omega), if_neg h]; congr 1; omega, .inr ⟨by omega, by omega⟩⟩
  have HN := Lib.hid hn.2
  have HLF := Lib.hid hn.1
  have hnb : (n : Int) ≤ 65537 := by have := hn.2; omega
  have c1 : e % 4294967296 = e := by omega
  have c2 : at' % 4294967296 = at' := by omega
  have c3 : (e + 1) % 4294967296 = e + 1 := by omega
  have c4 : IntKind.u32.wrap e = e := by rw [IntKind.wrap_u32]; omega
  have c5 : IntKind.u32.wrap at' = at' := by rw [IntKind.wrap_u32]; omega
  have c6 : IntKind.u32.wrap (e + 1) = e + 1 := by rw [IntKind.wrap_u32]; omega
  have c7 : (at' + (n : Int)) % 4294967296 = at' + (n : Int) := by omega
  have c8 : (at' + (n : Int) + 2) % 4294967296 = at' + (n : Int) + 2 := by omega
  have c9 : IntKind.u32.wrap (at' + (n : Int)) = at' + (n : Int) := by rw [IntKind.wrap_u32]; omega
  have c10 : IntKind.u32.wrap (at' + (n : Int) + 2) = at' + (n : Int) + 2 := by rw [IntKind.wrap_u32]; omega
  have HEA := Lib.hid (show (0 ≤ e ∧ e < 65536) ∧ (0 ≤ at' ∧ at' < 65536) ∧ (n : Int) ≤ 65537 from ⟨he, ha, hnb⟩)
  clear hn he ha
  go_enter Try.func5, Try.ntmps5
  go_wp2_with fail
  refine (HL.out (e + 1) at' _ (by have := HEA.out; unfold isU32; omega) (by have := HEA.out; unfold isU32; omega)).mono ?_
  rintro x w1 ⟨rfl, b1⟩
  rw [HLF.out]
  have B1 := Lib.hid (B0.out.trans (b1.mono B0.out.size))
  clear b1 B0
  go_wp2_with fail
  refine (SH.out _).mono ?_
  rintro x w2 ⟨rfl, b2⟩
  have B2 := Lib.hid (B1.out.trans (b2.mono B1.out.size))
  clear b2 B1
  go_wp2_with fail
  go_loopw [7, 8] (fun sk sh wr => ∃ j : Nat, sk = .int .u32 j ∧ sh = .int .u32 (at' + (j : Int)) ∧ j ≤ n ∧ Hid (Below w.heap.size w wr)) (fun sk _ _ => n + 1 - (intOf sk).toNat)
  case atStart => exact ⟨0, rfl, by go_num, by omega, B2⟩
  case round =>
    clear B2
    obtain ⟨j, rfl, rfl, hj, BR⟩ := hrel
    have d1 : decide (at' + (j : Int) ≤ at' + (n : Int) + 2) = true := decide_eq_true (by omega)
    have d2 : decide ((j : Int) ≤ (n : Int)) = true := decide_eq_true (by omega)
    have d3 : decide (j ≤ n) = true := decide_eq_true hj
    go_wp2_with fail
    refine (HE.out (e + 1) (at' + (j : Int)) _ (by have := HEA.out; unfold isU32; omega) (by have := HEA.out; unfold isU32; omega)).mono ?_
    rintro x w3 ⟨rfl, b3⟩
    have B3 := Lib.hid (BR.out.trans (b3.mono BR.out.size))
    clear b3 BR
    by_cases hlt : j < n
    · have HX := Lib.hid (show expF (e + 1) (at' + (j : Int)) = false from by
        have := HN.out
        have := HEA.out
        unfold expF
        rw [decide_eq_true (show e + 1 ≠ 0 by omega), decide_eq_false (show ¬ (e + 1 < at' + (j : Int)) by omega)]
        rfl)
      rw [HX.out]
      have HJ := Lib.hid (show j + 1 ≤ n ∧ j < n from ⟨by omega, hlt⟩)
      have k1 : ((j : Int) + 1) % 4294967296 = (j : Int) + 1 := by omega
      have k2 : (at' + (j : Int) + 1) % 4294967296 = at' + (j : Int) + 1 := by have := HEA.out; omega
      have k3 : IntKind.u32.wrap ((j : Int) + 1) = (j : Int) + 1 := by rw [IntKind.wrap_u32]; omega
      have k4 : IntKind.u32.wrap (at' + (j : Int) + 1) = at' + (j : Int) + 1 := by have := HEA.out; rw [IntKind.wrap_u32]; omega
      go_wp2_with fail
      go_roundw
      case rel => exact ⟨j + 1, by simp, by congr 1; omega, HJ.out.1, B3⟩
      case measure => have := HJ.out; simp [intOf]; omega
    · obtain rfl : j = n := by omega
      have HX := Lib.hid (show expF (e + 1) (at' + (j : Int)) = true from by
        have := HN.out
        have := HEA.out
        unfold expF
        rw [decide_eq_true (show e + 1 ≠ 0 by omega), decide_eq_true (show e + 1 < at' + (j : Int) by omega)]
        rfl)
      rw [HX.out]
      go_wp2_with fail
      go_ret
      exact ⟨by simp, B3.out⟩
end Go.Proofs.Ytjfhmnamiipgbaa
