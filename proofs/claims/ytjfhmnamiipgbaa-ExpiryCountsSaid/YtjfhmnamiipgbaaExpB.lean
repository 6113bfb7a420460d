/- Expiry: the project's functions. -/
import Derived.Test.YtjfhmnamiipgbaaExpA
namespace Go.Proofs.Ytjfhmnamiipgbaa
open Go.RowKit
theorem pAbove_e (a b : Int) (w : World) : Calls Try.prog 19 #[.int .u64 a, .int .u64 b] w fun x w' => x = .returned (.bool (decide (b < a))) ∧ Below w.heap.size w w' := by
  obtain ⟨q, hq⟩ : ∃ q, decide (b < a) = q := ⟨_, rfl⟩
  rw [hq]
  go_enter Try.func19, Try.ntmps19
  go_wp2
  go_ret
  exact ⟨rfl, Below.refl _ _⟩
theorem pNear_e (a b : Int) (w : World) (ha : isU32 a) : Calls Try.prog 20 #[.int .u64 a, .int .u64 b] w fun x w' => x = .returned (.bool (decide (b < a + 3))) ∧ Below w.heap.size w w' := by
  unfold isU32 at ha
  have h1 : IntKind.u64.wrap (a + 3) = a + 3 := by rw [IntKind.wrap_u64]; omega
  have H1 := Lib.hid (fun W => pAbove_e (a + 3) b W)
  clear ha
  go_enter Try.func20, Try.ntmps20
  go_wp2_with fail
  refine (H1.out _).mono ?_
  rintro x w1 ⟨rfl, b1⟩
  go_wp2_with fail
  go_ret
  exact ⟨rfl, b1⟩
theorem pLeftM_e (a b : Int) (w : World) (ha : isU32 a) (hb : isU32 b) : Calls Try.prog 17 #[.int .u64 a, .int .u64 b] w fun x w' => x = .returned (.int .u32 (if b < a then 0 else min (b - a + 1) 4294967295)) ∧ Below w.heap.size w w' := by
  unfold isU32 at ha hb
  have H1 := Lib.hid (fun W => pAbove_e a b W)
  by_cases hlt : b < a
  · have hd : decide (b < a) = true := decide_eq_true hlt
    rw [if_pos hlt]
    rw [hd] at H1
    clear ha hb hlt hd
    go_enter Try.func17, Try.ntmps17
    go_wp2_with fail
    refine (H1.out _).mono ?_
    rintro x w1 ⟨rfl, b1⟩
    go_wp2_with fail
    go_ret
    exact ⟨rfl, b1⟩
  · have hd : decide (b < a) = false := decide_eq_false hlt
    have h3 : IntKind.u64.wrap (b - a) = b - a := by rw [IntKind.wrap_u64]; omega
    have h4 : IntKind.u64.wrap (b - a + 1) = b - a + 1 := by rw [IntKind.wrap_u64]; omega
    have h6 : IntKind.u32.wrap (min (b - a + 1) 4294967295) = min (b - a + 1) 4294967295 := by rw [IntKind.wrap_u32]; omega
    have h7 : (min (b - a + 1) 4294967295) % 4294967296 = min (b - a + 1) 4294967295 := by omega
    rw [if_neg hlt]
    rw [hd] at H1
    clear ha hb hlt hd
    go_enter Try.func17, Try.ntmps17
    go_wp2_with fail
    refine (H1.out _).mono ?_
    rintro x w1 ⟨rfl, b1⟩
    go_wp2_with fail
    go_ret
    refine ⟨?_, b1⟩
    rfl
theorem askB_e (e h : Int) (g : Nat) (v : Bool) (w : World) (eg : ∀ args w, (callFunc g args).run Try.prog w = .ok (.enter g args) w) (he : isU32 e) (hh : isU32 h) (HG : e ≠ 0 → ∀ W, Calls Try.prog g #[.int .u64 h, .int .u64 e] W fun x w' => x = .returned (.bool v) ∧ Below W.heap.size W w') : Calls Try.prog 18 #[.int .u32 e, .int .u32 h, .func (.func g) #[] #[]] w fun x w' => x = .returned (.tuple #[.bool (decide (e ≠ 0) && v), .bool (decide (e ≠ 0))]) ∧ Below w.heap.size w w' := by
  unfold isU32 at he hh
  have h1 : IntKind.u64.wrap e = e := by rw [IntKind.wrap_u64]; omega
  have h2 : IntKind.u64.wrap h = h := by rw [IntKind.wrap_u64]; omega
  by_cases h0 : e = 0
  · subst h0
    clear HG h1 h2 he hh
    go_enter Try.func18, Try.ntmps18
    go_wp2
    go_ret2
    exact ⟨rfl, Below.refl _ _⟩
  · have hn : (e == 0) = false := beq_eq_false_iff_ne.2 h0
    have H1 := Lib.hid (HG h0)
    rw [decide_eq_true h0, Bool.true_and]
    clear HG he hh h0
    go_enter Try.func18, Try.ntmps18
    go_wp2_with fail
    refine (H1.out _).mono ?_
    rintro x w1 ⟨rfl, b1⟩
    go_wp2_with fail
    go_ret2
    exact ⟨rfl, b1⟩
theorem askU_e (e h : Int) (g : Nat) (v : Int) (w : World) (eg : ∀ args w, (callFunc g args).run Try.prog w = .ok (.enter g args) w) (he : isU32 e) (hh : isU32 h) (HG : e ≠ 0 → ∀ W, Calls Try.prog g #[.int .u64 h, .int .u64 e] W fun x w' => x = .returned (.int .u32 v) ∧ Below W.heap.size W w') : Calls Try.prog 16 #[.int .u32 e, .int .u32 h, .func (.func g) #[] #[]] w fun x w' => x = .returned (.tuple #[.int .u32 (if e = 0 then 0 else v), .bool (decide (e ≠ 0))]) ∧ Below w.heap.size w w' := by
  unfold isU32 at he hh
  have h1 : IntKind.u64.wrap e = e := by rw [IntKind.wrap_u64]; omega
  have h2 : IntKind.u64.wrap h = h := by rw [IntKind.wrap_u64]; omega
  by_cases h0 : e = 0
  · subst h0
    clear HG h1 h2 he hh
    go_enter Try.func16, Try.ntmps16
    go_wp2
    go_ret2
    exact ⟨rfl, Below.refl _ _⟩
  · have hn : (e == 0) = false := beq_eq_false_iff_ne.2 h0
    have H1 := Lib.hid (HG h0)
    rw [decide_eq_true h0, if_neg h0]
    clear HG he hh h0
    go_enter Try.func16, Try.ntmps16
    go_wp2_with fail
    refine (H1.out _).mono ?_
    rintro x w1 ⟨rfl, b1⟩
    go_wp2_with fail
    go_ret2
    exact ⟨rfl, b1⟩
theorem pExpd_e : ExpdOk := by
  intro e h w he hh
  have H1 := Lib.hid (fun W => askB_e e h 19 (decide (e < h)) W (enters_of Try.func19 (by kernel_rfl) rfl) he hh (fun _ V => pAbove_e h e V))
  clear he hh
  unfold expF
  obtain ⟨b, hb⟩ : ∃ b, decide (e ≠ 0) = b := ⟨_, rfl⟩
  obtain ⟨q, hq⟩ : ∃ q, decide (e < h) = q := ⟨_, rfl⟩
  rw [hb, hq]
  rw [hb, hq] at H1
  obtain ⟨v, hv⟩ : ∃ v, (b && q) = v := ⟨_, rfl⟩
  rw [hv]
  rw [hv] at H1
  clear hb hq hv
  go_enter Try.func11, Try.ntmps11
  go_wp2_with fail
  refine (H1.out _).mono ?_
  rintro x w1 ⟨rfl, b1⟩
  go_wp2_with fail
  go_ret
  exact ⟨rfl, b1⟩
theorem pSoon_e : SoonOk := by
  intro e h w he hh
  have H1 := Lib.hid (fun W => askB_e e h 20 (decide (e < h + 3)) W (enters_of Try.func20 (by kernel_rfl) rfl) he hh (fun _ V => pNear_e h e V hh))
  clear he hh
  unfold soonF
  obtain ⟨b, hb⟩ : ∃ b, decide (e ≠ 0) = b := ⟨_, rfl⟩
  obtain ⟨q, hq⟩ : ∃ q, decide (e < h + 3) = q := ⟨_, rfl⟩
  rw [hb, hq]
  rw [hb, hq] at H1
  obtain ⟨v, hv⟩ : ∃ v, (b && q) = v := ⟨_, rfl⟩
  rw [hv]
  rw [hv] at H1
  clear hb hq hv
  go_enter Try.func13, Try.ntmps13
  go_wp2_with fail
  refine (H1.out _).mono ?_
  rintro x w1 ⟨rfl, b1⟩
  go_wp2_with fail
  go_ret
  exact ⟨rfl, b1⟩
theorem pLeft_e : LeftOk := by
  intro e n w he hh
  have H1 := Lib.hid (fun W => askU_e e n 17 (if e < n then 0 else min (e - n + 1) 4294967295) W (enters_of Try.func17 (by kernel_rfl) rfl) he hh (fun _ V => pLeftM_e n e V hh he))
  have h1 : (leftF e n).1 = (if e = 0 then 0 else (if e < n then 0 else min (e - n + 1) 4294967295)) := by
    unfold leftF; split
    · rfl
    · split <;> rfl
  have h2 : (leftF e n).2 = decide (e ≠ 0) := by
    unfold leftF; by_cases h0 : e = 0
    · rw [if_pos h0, h0]; rfl
    · rw [if_neg h0, decide_eq_true h0]; split <;> rfl
  rw [h1, h2]
  clear he hh h1 h2
  obtain ⟨v, hv⟩ : ∃ v, (if e = 0 then 0 else (if e < n then 0 else min (e - n + 1) 4294967295)) = v := ⟨_, rfl⟩
  rw [hv] at H1
  rw [hv]
  clear hv
  obtain ⟨b, hb⟩ : ∃ b, decide (e ≠ 0) = b := ⟨_, rfl⟩
  rw [hb] at H1
  rw [hb]
  clear hb
  go_enter Try.func7, Try.ntmps7
  go_wp2_with fail
  refine (H1.out _).mono ?_
  rintro x w1 ⟨rfl, b1⟩
  go_wp2_with fail
  go_ret2
  exact ⟨rfl, b1⟩
theorem pChk_e : ChkOk := by
  intro e w he
  clear he
  by_cases h : 499999999 < e
  · have hd : decide ((499999999 : Int) < e) = true := decide_eq_true h
    have hr : chkF e = 120 := if_pos h
    rw [hr]
    clear h hr
    go_enter Try.func9, Try.ntmps9
    go_wp2
    go_ret
    exact ⟨rfl, Below.refl _ _⟩
  · have hd : decide ((499999999 : Int) < e) = false := decide_eq_false h
    have hr : chkF e = 0 := if_neg h
    rw [hr]
    clear h hr
    go_enter Try.func9, Try.ntmps9
    go_wp2
    go_ret
    exact ⟨rfl, Below.refl _ _⟩
end Go.Proofs.Ytjfhmnamiipgbaa
