/- Expiry: plain; the document's functions; what is assumed of the project's; the law's shown. -/
import Derived.Test.YtjfhmnamiipgbaaGenA
namespace Go.Proofs.Ytjfhmnamiipgbaa
open Go.RowKit
def leftF (e n : Int) : Int × Bool := if e = 0 then (0, false) else if e < n then (0, true) else (min (e - n + 1) 4294967295, true)
def chkF (e : Int) : Int := if 499999999 < e then 120 else 0
def expF (e h : Int) : Bool := decide (e ≠ 0) && decide (e < h)
def soonF (e n : Int) : Bool := decide (e ≠ 0) && decide (e < n + 3)
def isU32 (e : Int) : Prop := 0 ≤ e ∧ e < 4294967296
def LeftOk : Prop := ∀ (e n : Int) (w : World), isU32 e → isU32 n → Calls Try.prog 7 #[.int .u32 e, .int .u32 n] w fun x w' => x = .returned (.tuple #[.int .u32 (leftF e n).1, .bool (leftF e n).2]) ∧ Below w.heap.size w w'
def ChkOk : Prop := ∀ (e : Int) (w : World), isU32 e → Calls Try.prog 9 #[.int .u32 e] w fun x w' => x = .returned (.int .i64 (chkF e)) ∧ Below w.heap.size w w'
def ExpdOk : Prop := ∀ (e h : Int) (w : World), isU32 e → isU32 h → Calls Try.prog 11 #[.int .u32 e, .int .u32 h] w fun x w' => x = .returned (.bool (expF e h)) ∧ Below w.heap.size w w'
def SoonOk : Prop := ∀ (e h : Int) (w : World), isU32 e → isU32 h → Calls Try.prog 13 #[.int .u32 e, .int .u32 h] w fun x w' => x = .returned (.bool (soonF e h)) ∧ Below w.heap.size w w'
theorem rChk_e (e : Int) (w : World) : Calls Try.prog 10 #[.int .u32 e] w fun x w' => x = .returned (.int .i64 (chkF e)) ∧ Below w.heap.size w w' := by
  by_cases h : 499999999 < e
  · have hd : decide ((499999999 : Int) < e) = true := decide_eq_true h
    have hr : chkF e = 120 := if_pos h
    rw [hr]
    clear h hr
    go_enter Try.func10, Try.ntmps10
    go_wp2
    go_ret
    exact ⟨rfl, Below.refl _ _⟩
  · have hd : decide ((499999999 : Int) < e) = false := decide_eq_false h
    have hr : chkF e = 0 := if_neg h
    rw [hr]
    clear h hr
    go_enter Try.func10, Try.ntmps10
    go_wp2
    go_ret
    exact ⟨rfl, Below.refl _ _⟩
theorem rExp_e (e h : Int) (w : World) : Calls Try.prog 12 #[.int .u32 e, .int .u32 h] w fun x w' => x = .returned (.bool (expF e h)) ∧ Below w.heap.size w w' := by
  by_cases h0 : e = 0
  · subst h0
    go_enter Try.func12, Try.ntmps12
    go_wp2
    go_ret
    exact ⟨rfl, Below.refl _ _⟩
  · have hn : (e != 0) = true := bne_iff_ne.2 h0
    obtain ⟨q, hq⟩ : ∃ q, decide (e < h) = q := ⟨_, rfl⟩
    have hr : expF e h = q := by unfold expF; rw [hq, decide_eq_true h0]; rfl
    rw [hr]
    clear h0 hr
    go_enter Try.func12, Try.ntmps12
    go_wp2
    go_ret
    exact ⟨rfl, Below.refl _ _⟩
theorem rSoon_e (e n : Int) (w : World) (he : isU32 e) (hn : isU32 n) : Calls Try.prog 14 #[.int .u32 e, .int .u32 n] w fun x w' => x = .returned (.bool (soonF e n)) ∧ Below w.heap.size w w' := by
  unfold isU32 at he hn
  have h1 : IntKind.u64.wrap e = e := by rw [IntKind.wrap_u64]; omega
  have h2 : IntKind.u64.wrap n = n := by rw [IntKind.wrap_u64]; omega
  have h3 : IntKind.u64.wrap (n + 3) = n + 3 := by rw [IntKind.wrap_u64]; omega
  by_cases h0 : e = 0
  · subst h0
    go_enter Try.func14, Try.ntmps14
    go_wp2
    go_ret
    exact ⟨rfl, Below.refl _ _⟩
  · have hne : (e != 0) = true := bne_iff_ne.2 h0
    obtain ⟨q, hq⟩ : ∃ q, decide (e < n + 3) = q := ⟨_, rfl⟩
    have hr : soonF e n = q := by unfold soonF; rw [hq, decide_eq_true h0]; rfl
    rw [hr]
    clear h0 hr he hn
    go_enter Try.func14, Try.ntmps14
    go_wp2
    go_ret
    exact ⟨rfl, Below.refl _ _⟩
theorem rLeft_e (e n : Int) (w : World) (he : isU32 e) (hn : isU32 n) : Calls Try.prog 8 #[.int .u32 e, .int .u32 n] w fun x w' => x = .returned (.tuple #[.int .u32 (leftF e n).1, .bool (leftF e n).2]) ∧ Below w.heap.size w w' := by
  unfold isU32 at he hn
  by_cases h0 : e = 0
  · subst h0
    go_enter Try.func8, Try.ntmps8
    go_wp2
    go_ret2
    exact ⟨rfl, Below.refl _ _⟩
  · have hne : (e == 0) = false := beq_eq_false_iff_ne.2 h0
    by_cases hlt : e < n
    · have hd : decide (e < n) = true := decide_eq_true hlt
      have hr : leftF e n = (0, true) := by unfold leftF; rw [if_neg h0, if_pos hlt]
      rw [hr]
      clear h0 hlt hr he hn
      go_enter Try.func8, Try.ntmps8
      go_wp2
      go_ret2
      exact ⟨rfl, Below.refl _ _⟩
    · have hd : decide (e < n) = false := decide_eq_false hlt
      have h1 : IntKind.u64.wrap e = e := by rw [IntKind.wrap_u64]; omega
      have h2 : IntKind.u64.wrap n = n := by rw [IntKind.wrap_u64]; omega
      have h3 : IntKind.u64.wrap (e - n) = e - n := by rw [IntKind.wrap_u64]; omega
      have h4 : IntKind.u64.wrap (e - n + 1) = e - n + 1 := by rw [IntKind.wrap_u64]; omega
      by_cases hb : 4294967295 < e - n + 1
      · have hd2 : decide ((4294967295 : Int) < e - n + 1) = true := decide_eq_true hb
        have hr : leftF e n = (4294967295, true) := by unfold leftF; rw [if_neg h0, if_neg hlt]; congr 1; omega
        rw [hr]
        clear h0 hlt hr he hn hb
        go_enter Try.func8, Try.ntmps8
        go_wp2
        go_ret2
        exact ⟨rfl, Below.refl _ _⟩
      · have hd2 : decide ((4294967295 : Int) < e - n + 1) = false := decide_eq_false hb
        have hr : leftF e n = (e - n + 1, true) := by unfold leftF; rw [if_neg h0, if_neg hlt]; congr 1; omega
        have h5 : (e - n + 1) % 4294967296 = e - n + 1 := by omega
        have h6 : IntKind.u32.wrap (e - n + 1) = e - n + 1 := by rw [IntKind.wrap_u32]; omega
        rw [hr]
        clear h0 hlt hr he hn hb
        go_enter Try.func8, Try.ntmps8
        go_wp2
        go_ret2
        exact ⟨rfl, Below.refl _ _⟩
theorem eshown_any (HEX : ExpdOk) (HCH : ChkOk) (w : World) : Calls Try.prog 15 #[] w fun x w' => x = .returned (.bool true) ∧ Below w.heap.size w w' := by
  have H1 := Lib.hid (fun W => HEX 5 6 W ⟨by omega, by omega⟩ ⟨by omega, by omega⟩)
  have H2 := Lib.hid (fun W => HEX 5 5 W ⟨by omega, by omega⟩ ⟨by omega, by omega⟩)
  have H3 := Lib.hid (fun W => HEX 0 6 W ⟨by omega, by omega⟩ ⟨by omega, by omega⟩)
  have H4 := Lib.hid (fun W => HCH 500000000 W ⟨by omega, by omega⟩)
  clear HEX HCH
  go_enter Try.func15, Try.ntmps15
  go_wp2_with fail
  refine (H1.out _).mono ?_
  rintro x w1 ⟨rfl, b1⟩
  rw [show expF 5 6 = true by decide]
  go_wp2_with fail
  refine (H2.out _).mono ?_
  rintro x w2 ⟨rfl, b2⟩
  rw [show expF 5 5 = false by decide]
  go_wp2_with fail
  refine (H3.out _).mono ?_
  rintro x w3 ⟨rfl, b3⟩
  rw [show expF 0 6 = false by decide]
  go_wp2_with fail
  refine (H4.out _).mono ?_
  rintro x w4 ⟨rfl, b4⟩
  rw [show chkF 500000000 = 120 by decide]
  go_wp2_with fail
  go_ret
  exact ⟨rfl, ((b1.trans (b2.mono b1.size)).trans (b3.mono (b1.trans (b2.mono b1.size)).size)).trans (b4.mono ((b1.trans (b2.mono b1.size)).trans (b3.mono (b1.trans (b2.mono b1.size)).size)).size)⟩
end Go.Proofs.Ytjfhmnamiipgbaa
