/- slices.IsSortedFunc, IndexFunc, ContainsFunc at keys. -/
import Derived.Test.YticphjnabecanaaKeyO
import Derived.Test.YticphjnabecanaaGenA
namespace Go.Proofs.Yticphjnabecanaa
open Go.RowKit Go.Sort
theorem tyK : RowTy Try.prog 27 26 encK 32 :=
  ⟨Try.underlying27, by kernel_rfl, encK_len, encK_one, fun w => by simp [isAgg, run_underlying Try.underlying26], by omega⟩
theorem RowC.cast {w : World} {g o o' : Nat} {cs : List Value} (h : RowC w g o cs) (e : o' = o) : RowC w g o' cs := e ▸ h
theorem encK_bytes (x : K32) : (encK x).toArray = bytesA x.1 := encK_arr x
theorem rises_adj : ∀ l : List K32, (∀ j (h : j + 1 < l.length), ltK l[j + 1] (l[j]'(by omega)) = false) → Rises l
  | [], _ => List.Pairwise.nil
  | [_], _ => by simp
  | a :: b :: l, h => by
    have ih := rises_adj (b :: l) (fun j hj => h (j + 1) (by simpa using hj))
    have h0 := h 0 (by simp)
    simp only [List.getElem_cons_zero, List.getElem_cons_succ] at h0
    refine List.pairwise_cons.2 ⟨fun x hx => ?_, ih⟩
    rcases List.mem_cons.1 hx with rfl | hx
    · exact h0
    · exact ltK_ntrans ((List.pairwise_cons.1 ih).1 x hx) h0
theorem rises_adj' {l : List K32} (h : Rises l) (j : Nat) (hj : j + 1 < l.length) : ltK l[j + 1] (l[j]'(by omega)) = false :=
  List.pairwise_iff_getElem.1 h j (j + 1) (by omega) hj (by omega)
/-- the place of the first one of which p holds, or -1 -/
def firstI (p : K32 → Bool) (l : List K32) : Int := if l.any p = true then (l.findIdx p : Int) else -1
theorem firstI_at (p : K32 → Bool) (l : List K32) (k : Nat) (hk : k < l.length) (hp : p l[k] = true) (hb : ∀ j (h : j < l.length), j < k → p l[j] = false) : firstI p l = k := by
  unfold firstI
  rw [if_pos (List.any_eq_true.2 ⟨_, List.getElem_mem hk, hp⟩)]
  congr 1
  exact (List.findIdx_eq hk).2 ⟨hp, fun j hj => hb j (by omega) hj⟩
theorem firstI_none (p : K32 → Bool) (l : List K32) (hb : ∀ j (h : j < l.length), p l[j] = false) : firstI p l = -1 := by
  unfold firstI
  rw [if_neg]
  intro h
  obtain ⟨x, hx, hp⟩ := List.any_eq_true.1 h
  obtain ⟨i, hi, rfl⟩ := List.getElem_of_mem hx
  rw [hb i hi] at hp; cases hp
theorem firstI_geq (p : K32 → Bool) (l : List K32) : decide ((0 : Int) ≤ firstI p l) = l.any p := by
  unfold firstI
  cases l.any p <;> simp
set_option maxRecDepth 20000 in
set_option maxHeartbeats 1000000 in
theorem indexFunc_any (A : Option Addr) (c : Nat) (l : List K32) (B : Nat) (w : World) (hl : l.length ≤ 1000000) (hB : B ≤ w.heap.size) (h : RowIn encK 32 w B A c l)
    (g : Nat) (cb : Array Value) (p : K32 → Bool) (eg : ∀ args w, (callFunc g args).run Try.prog w = .ok (.enter g args) w)
    (hp : ∀ x W, Below w.heap.size w W → Calls Try.prog g (#[.agg (bytesA x.1)] ++ cb) W fun e w' => e = .returned (.bool (p x)) ∧ Below W.heap.size W w') :
    Calls Try.prog 70 #[.slice A l.length c, .func (.func g) #[] cb] w fun e w' => e = .returned (.int .i64 (firstI p l)) ∧ Below w.heap.size w w' := by
  obtain ⟨r, hr⟩ : ∃ r, firstI p l = r := ⟨_, rfl⟩
  rw [hr]
  have HR := Lib.hid hr
  clear hr
  obtain ⟨n, hn⟩ : ∃ n, l.length = n := ⟨_, rfl⟩
  have HN := Lib.hid hn
  rw [hn] at hl
  have HH := Lib.hid h
  have HP := Lib.hid hp
  clear h hp
  rw [hn]
  clear hn
  go_enter Try.func70, Try.ntmps70
  go_wp2_with fail
  go_loopw [5, 8] (fun _ i wr => ∃ k : Nat, i = .int .i64 k ∧ k ≤ n ∧ Hid (∀ j (h : j < l.length), j < k → p l[j] = false) ∧ Hid (Below w.heap.size w wr)) (fun _ i _ => n - (intOf i).toNat)
  case atStart => exact ⟨0, rfl, by omega, Lib.hid (fun j h1 h2 => absurd h2 (Nat.not_lt_zero _)), Lib.hid (Below.refl _ _)⟩
  case round =>
    obtain ⟨k, rfl, hk, HI, HW⟩ := hrel
    by_cases hlt : k < n
    · have hk' : k < l.length := by rw [HN.out]; exact hlt
      obtain ⟨gg, o, rfl, hg, hc⟩ := HH.out.cells (by intro e; subst e; simp at hk')
      have HX := Lib.hid ((hc.below HW.out (by omega)).at encK_len hk')
      clear hc
      obtain ⟨x, hx⟩ : ∃ x, l[k]'hk' = x := ⟨_, rfl⟩
      rw [hx] at HX
      have HE := Lib.hid hx
      clear hx
      have d1 : (0 : Int) ≤ (k : Int) := by omega
      have d2 : (k : Int) < (n : Int) := by omega
      have HC := Lib.hid (HP.out x wr HW.out)
      obtain ⟨b, hb⟩ : ∃ b, p x = b := ⟨_, rfl⟩
      rw [hb] at HC
      have HB := Lib.hid hb
      clear hb
      cases b
      · go_wp2_with (first
          | ((with_reducible refine at_loadg 14 ?_); refine tyK.wpList_load (by rfl) (.tmp 14) rfl gg _ rfl x (HX.out.cast (by omega)) ?_; simp only [encK_bytes])
          | (go_at_fn g; refine HC.out.mono ?_; rintro e w2 ⟨rfl, b2⟩))
        go_roundw
        case rel =>
          refine ⟨k + 1, by go_num, by omega, Lib.hid (fun j h1 h2 => ?_), Lib.hid (HW.out.trans (b2.mono HW.out.size))⟩
          by_cases e : j = k
          · subst e; rw [HE.out]; exact HB.out
          · exact HI.out j h1 (by omega)
        case measure => simp [intOf]; omega
      · go_wp2_with (first
          | ((with_reducible refine at_loadg 14 ?_); refine tyK.wpList_load (by rfl) (.tmp 14) rfl gg _ rfl x (HX.out.cast (by omega)) ?_; simp only [encK_bytes])
          | (go_at_fn g; refine HC.out.mono ?_; rintro e w2 ⟨rfl, b2⟩))
        go_ret
        refine ⟨?_, HW.out.trans (b2.mono HW.out.size)⟩
        rw [← HR.out, firstI_at p l k hk' (by rw [HE.out]; exact HB.out) HI.out]
        rfl
    · go_wp2_with fail
      go_ret
      refine ⟨?_, HW.out⟩
      rw [← HR.out, firstI_none p l (fun j hj => HI.out j hj (by have := HN.out; omega))]
      rfl
theorem containsFunc_any (A : Option Addr) (c : Nat) (l : List K32) (B : Nat) (w : World) (hl : l.length ≤ 1000000) (hB : B ≤ w.heap.size) (h : RowIn encK 32 w B A c l)
    (g : Nat) (cb : Array Value) (p : K32 → Bool) (eg : ∀ args w, (callFunc g args).run Try.prog w = .ok (.enter g args) w)
    (hp : ∀ x W, Below w.heap.size w W → Calls Try.prog g (#[.agg (bytesA x.1)] ++ cb) W fun e w' => e = .returned (.bool (p x)) ∧ Below W.heap.size W w') :
    Calls Try.prog 54 #[.slice A l.length c, .func (.func g) #[] cb] w fun e w' => e = .returned (.bool (l.any p)) ∧ Below w.heap.size w w' := by
  have HC := Lib.hid (indexFunc_any A c l B w hl hB h g cb p eg hp)
  have HQ := firstI_geq p l
  obtain ⟨q, hq⟩ : ∃ q, firstI p l = q := ⟨_, rfl⟩
  rw [hq] at HC HQ
  obtain ⟨r, hr⟩ : ∃ r, l.any p = r := ⟨_, rfl⟩
  rw [hr] at HQ ⊢
  clear hq hr h hp
  go_enter Try.func54, Try.ntmps54
  go_wp2_with (go_at_call 70; refine HC.out.mono ?_; rintro e w2 ⟨rfl, b2⟩)
  go_ret
  exact ⟨by first | (rw [← HQ]; rfl) | rfl, b2⟩
end Go.Proofs.Yticphjnabecanaa
