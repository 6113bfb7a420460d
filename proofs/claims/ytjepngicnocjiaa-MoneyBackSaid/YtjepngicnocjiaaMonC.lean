/- money's Add, Sub, Sum and Fee, by told and their closures. -/
import Derived.Test.YtjepngicnocjiaaMonB
import Derived.Test.YtjepngicnocjiaaQuiet
namespace Go.Proofs.Ytjepngicnocjiaa
open Go.RowKit
theorem reads_blk {w : World} {g B n : Nat} {t : TypeId} {zs : List Int} (h : Blk w g t (ints zs).toArray) (hB : g < B) (hn : n = zs.length) : Reads w B 1 (some ⟨g, 0, none⟩) n (ints zs) :=
  ⟨by rw [ints_len, hn]; omega, fun _ => ⟨_, rfl, hB, fun j u hu => by
    have e : (⟨g, 0, none⟩ : Addr).add j = ⟨g, j, none⟩ := by unfold Addr.add; split <;> simp_all
    rw [e, h.cell j]; simpa using hu⟩⟩
theorem sum_pair (a b : Int) : sumO 0 [a, b] = addO a b := by
  simp only [sumO]
  have e : addO 0 a = if mayB a then some a else none := by
    unfold addO
    have h0 : mayB 0 = true := by decide
    cases h : mayB a <;> simp [h0, h]
  rw [e]
  cases h : mayB a
  · simp [addO, h]
  · simp only [if_true]
    cases addO a b <;> rfl
theorem sum_one (a : Int) : sumO 0 [a] = if mayB a then some a else none := by
  simp only [sumO]
  unfold addO
  have h0 : mayB 0 = true := by decide
  cases h : mayB a <;> simp [h0, h]
theorem endO_below {o : Option Int} {w w1 : World} {P : Program} {f : FuncId} {args : Array Value} (h : Calls P f args w1 fun e w' => e = endO o ∧ w1 = w') (hb : Below w.heap.size w w1) :
    Calls P f args w1 fun e w' => e = endO o ∧ Below w.heap.size w w' := h.mono fun _ _ ⟨he, hw⟩ => ⟨he, hw ▸ hb⟩
theorem addC_any (pa pb : Addr) (a b : Int) (w : World) (ha : w.cell? pa = some (.int .i64 a)) (hb : w.cell? pb = some (.int .i64 b)) :
    Calls Try.prog 21 #[.pointer (some pa), .pointer (some pb)] w fun e w' => e = endO (addO a b) ∧ Below w.heap.size w w' := by
  obtain ⟨o, ho⟩ : ∃ o, addO a b = o := ⟨_, rfl⟩
  rw [ho]
  have HO := Lib.hid ((sum_pair a b).trans ho)
  clear ho
  go_enter Try.func21, Try.ntmps21
  go_wp2_with fail
  clear ha hb
  refine (sum_any [a, b] _ _ _ (w.heap.size + 1) _ (reads_blk (t := 2) (Blk.new w _ _) (by omega) rfl) (by simp [maxLen])).mono ?_
  rintro e w' ⟨rfl, rfl⟩
  have hB : Below w.heap.size w (w.alloc (.cells #[.int .i64 a, .int .i64 b] 2)) := (Below.refl _ _).alloc (Nat.le_refl _) _
  rw [HO.out]
  cases o with
  | none => exact ⟨rfl, rfl, hB⟩
  | some s =>
    simp only [endO]
    go_wp2
    go_ret
    exact ⟨rfl, hB⟩
theorem subC_any (pa pb : Addr) (a b : Int) (w : World) (ha : w.cell? pa = some (.int .i64 a)) (hb : w.cell? pb = some (.int .i64 b)) :
    Calls Try.prog 23 #[.pointer (some pa), .pointer (some pb)] w fun e w' => e = endO (subO a b) ∧ Below w.heap.size w w' := by
  obtain ⟨o, ho⟩ : ∃ o, subO a b = o := ⟨_, rfl⟩
  rw [ho]
  have HO := Lib.hid ho
  clear ho
  go_enter Try.func23, Try.ntmps23
  go_wp2_with fail
  clear ha hb
  cases o with
  | none =>
    refine (less_none a b HO.out _).mono ?_
    rintro e w' ⟨rfl, rfl⟩
    exact ⟨rfl, rfl, Below.refl _ _⟩
  | some s =>
    refine (less_some a b s HO.out _).mono ?_
    rintro e w' ⟨rfl, rfl⟩
    go_wp2
    go_ret
    exact ⟨rfl, Below.refl _ _⟩
theorem sumC_any (p : Addr) (zs : List Int) (A : Option Addr) (n cap B : Nat) (w : World) (hr : Reads w B 1 A n (ints zs)) (hm : n ≤ maxLen) (hp : w.cell? p = some (.slice A n cap)) :
    Calls Try.prog 25 #[.pointer (some p)] w fun e w' => e = endO (sumO 0 zs) ∧ Below w.heap.size w w' := by
  have HR := Lib.hid hr
  clear hr
  obtain ⟨o, ho⟩ : ∃ o, sumO 0 zs = o := ⟨_, rfl⟩
  rw [ho]
  have HO := Lib.hid ho
  clear ho
  go_enter Try.func25, Try.ntmps25
  go_wp2_with fail
  clear hp
  refine (sum_any zs A n cap B _ HR.out hm).mono ?_
  rintro e w' ⟨rfl, rfl⟩
  rw [HO.out]
  cases o with
  | none => exact ⟨rfl, rfl, Below.refl _ _⟩
  | some s =>
    simp only [endO]
    go_wp2
    go_ret
    exact ⟨rfl, Below.refl _ _⟩
theorem told_any (g : FuncId) (caps : Array Value) (o : Option Int) (w : World) (hen : ∀ W, (callFunc g caps).run Try.prog W = .ok (.enter g caps) W)
    (hf : ∀ w1, Below w.heap.size w w1 → Calls Try.prog g caps w1 fun e w' => e = endO o ∧ Below w1.heap.size w1 w') :
    Calls Try.prog 20 #[.func (.func g) #[] caps] w fun e w' => e = .returned (resO o) ∧ Below w.heap.size w w' := by
  cases o with
  | none => exact told_none g caps w hen hf
  | some n => exact told_some g caps n w hen hf
theorem enter_add (caps : Array Value) (W : World) : (callFunc 21 caps).run Try.prog W = .ok (.enter 21 caps) W := by simp [go_sem]
theorem enter_sub (caps : Array Value) (W : World) : (callFunc 23 caps).run Try.prog W = .ok (.enter 23 caps) W := by simp [go_sem]
theorem enter_sum (caps : Array Value) (W : World) : (callFunc 25 caps).run Try.prog W = .ok (.enter 25 caps) W := by simp [go_sem]
theorem enter_fee (caps : Array Value) (W : World) : (callFunc 26 caps).run Try.prog W = .ok (.enter 26 caps) W := by simp [go_sem]
theorem add_any (a b : Int) (w : World) : Calls Try.prog 10 #[.int .i64 a, .int .i64 b] w fun e w' => e = .returned (resO (addO a b)) ∧ Below w.heap.size w w' := by
  have hmf : ∀ (fn : Fn) (first cap : Array Value) (w : World), (Instr.makeFunc fn first cap).run Try.prog w = .ok (.func fn first cap) w := fun _ _ _ _ => rfl
  go_enter Try.func10, Try.ntmps10
  go_wp2_with fail
  have hB : Below w.heap.size w ((w.alloc (.cells #[.int .i64 a] 2)).alloc (.cells #[.int .i64 b] 2)) := ((Below.refl _ _).alloc (Nat.le_refl _) _).alloc (by simp) _
  refine (told_any 21 #[.pointer (some ⟨w.heap.size, 0, none⟩), .pointer (some ⟨w.heap.size + 1, 0, none⟩)] (addO a b) _ (enter_add _)
    (fun w1 b1 => addC_any _ _ a b w1 ((below_blk b1 ((Blk.new w _ _).alloc _) (by simp; omega)).cell 0) ((below_blk b1 (blk_new 2 #[.int .i64 b] (g := w.heap.size + 1) (by simp)) (by simp)).cell 0))).mono ?_
  rintro e w2 ⟨rfl, b2⟩
  have B2 := hB.trans (b2.mono (by simp; omega))
  simp only [resO]
  go_wp2
  go_ret2
  exact ⟨rfl, B2⟩
theorem sub_any (a b : Int) (w : World) : Calls Try.prog 12 #[.int .i64 a, .int .i64 b] w fun e w' => e = .returned (resO (subO a b)) ∧ Below w.heap.size w w' := by
  have hmf : ∀ (fn : Fn) (first cap : Array Value) (w : World), (Instr.makeFunc fn first cap).run Try.prog w = .ok (.func fn first cap) w := fun _ _ _ _ => rfl
  go_enter Try.func12, Try.ntmps12
  go_wp2_with fail
  have hB : Below w.heap.size w ((w.alloc (.cells #[.int .i64 a] 2)).alloc (.cells #[.int .i64 b] 2)) := ((Below.refl _ _).alloc (Nat.le_refl _) _).alloc (by simp) _
  refine (told_any 23 #[.pointer (some ⟨w.heap.size, 0, none⟩), .pointer (some ⟨w.heap.size + 1, 0, none⟩)] (subO a b) _ (enter_sub _)
    (fun w1 b1 => subC_any _ _ a b w1 ((below_blk b1 ((Blk.new w _ _).alloc _) (by simp; omega)).cell 0) ((below_blk b1 (blk_new 2 #[.int .i64 b] (g := w.heap.size + 1) (by simp)) (by simp)).cell 0))).mono ?_
  rintro e w2 ⟨rfl, b2⟩
  have B2 := hB.trans (b2.mono (by simp; omega))
  simp only [resO]
  go_wp2
  go_ret2
  exact ⟨rfl, B2⟩
theorem gsum_any (zs : List Int) (A : Option Addr) (n cap B : Nat) (w : World) (hr : Reads w B 1 A n (ints zs)) (hB : B ≤ w.heap.size) (hm : n ≤ maxLen) :
    Calls Try.prog 14 #[.slice A n cap] w fun e w' => e = .returned (resO (sumO 0 zs)) ∧ Below w.heap.size w w' := by
  have hmf : ∀ (fn : Fn) (first cap : Array Value) (w : World), (Instr.makeFunc fn first cap).run Try.prog w = .ok (.func fn first cap) w := fun _ _ _ _ => rfl
  have HR := Lib.hid hr
  clear hr
  go_enter Try.func14, Try.ntmps14
  go_wp2_with fail
  have hB1 : Below w.heap.size w (w.alloc (.cells #[.slice A n cap] 22)) := (Below.refl _ _).alloc (Nat.le_refl _) _
  refine (told_any 25 #[.pointer (some ⟨w.heap.size, 0, none⟩)] (sumO 0 zs) _ (enter_sum _)
    (fun w1 b1 => sumC_any _ zs A n cap B w1 ((HR.out.alloc hB _).below (b1.mono (by simp; omega))) hm ((below_blk b1 (Blk.new w 22 _) (by simp)).cell 0))).mono ?_
  rintro e w2 ⟨rfl, b2⟩
  have B2 := hB1.trans (b2.mono (by simp))
  simp only [resO]
  go_wp2
  go_ret2
  exact ⟨rfl, B2⟩
end Go.Proofs.Ytjepngicnocjiaa
