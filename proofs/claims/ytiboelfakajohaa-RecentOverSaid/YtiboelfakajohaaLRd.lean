/- RecentOver, RecentTwice. Written by genRcD.py. -/
import Derived.Test.YtiboelfakajohaaLRc
namespace Go.Proofs.Ytiboelfakajohaa
open Go.RowKit
set_option maxRecDepth 20000 in
set_option maxHeartbeats 8000000 in
theorem rcOver_h (HPU : RPutOk) (HHA : RHasOk) (A : Option Addr) (c : Nat) (l : List ItV) (a b : IntV .u64) (id : K32) (w : World) (hn : 200 < l.length) :
    Calls Try.prog 6 #[.slice A l.length c, .int .u64 a.1, .int .u64 b.1, .agg (encK id).toArray] w fun e w' => e = .returned (.bool true) ∧ Below w.heap.size w w' := by
  have SH := Lib.hid (fun W => ishown_any HPU HHA W)
  have H0 := Lib.hid (show Holds w [(w.heap.size, 24, (encK id).toArray)] (w.alloc (.cells (encK id).toArray 24)) from (Holds.nil w).box 24 (encK id).toArray)
  have hd : decide ((200 : Int) < (l.length : Int)) = true := by simp; omega
  clear HPU HHA hn
  go_enter Try.func6, Try.ntmps6
  go_wp2_with fail
  refine (SH.out _).mono ?_
  rintro e w1 ⟨rfl, b1⟩
  have H1 := Lib.hid (H0.out.call b1)
  clear b1
  go_wp2_with fail
  go_ret
  exact ⟨rfl, H1.out.below⟩
set_option maxRecDepth 20000 in
set_option maxHeartbeats 8000000 in
theorem rcOver_t (HPU : RPutOk) (HHA : RHasOk) (HOL : ROldOk) (A : Option Addr) (c : Nat) (l : List ItV) (a b : IntV .u64) (id : K32) (w : World) (hl : RowIn (encKI .u64) 33 w w.heap.size A c l) (hn : l.length ≤ 200) (hb : hasI l id (max a.1 b.1) = true) :
    Calls Try.prog 6 #[.slice A l.length c, .int .u64 a.1, .int .u64 b.1, .agg (encK id).toArray] w fun e w' => e = .returned (.bool true) ∧ Below w.heap.size w w' := by
  have SH := Lib.hid (fun W => ishown_any HPU HHA W)
  have H0 := Lib.hid (show Holds w [(w.heap.size, 24, (encK id).toArray)] (w.alloc (.cells (encK id).toArray 24)) from (Holds.nil w).box 24 (encK id).toArray)
  have hd : decide ((200 : Int) < (l.length : Int)) = false := by simp; omega
  obtain ⟨lo, hlo⟩ : ∃ lo : IntV .u64, lo.1 = min a.1 b.1 := by
    by_cases h : a.1 ≤ b.1
    · exact ⟨a, by omega⟩
    · exact ⟨b, by omega⟩
  obtain ⟨hi, hhi⟩ : ∃ hi : IntV .u64, hi.1 = max a.1 b.1 := by
    by_cases h : a.1 ≤ b.1
    · exact ⟨b, by omega⟩
    · exact ⟨a, by omega⟩
  have hle : lo.1 ≤ hi.1 := by omega
  have hbb : hasI l id hi.1 = true := by have := hb; rwa [← hhi] at this
  obtain ⟨X, hX⟩ : ∃ X, oldI l lo.1 = X := ⟨_, rfl⟩
  obtain ⟨Y, hY⟩ : ∃ Y, oldI l hi.1 = Y := ⟨_, rfl⟩
  obtain ⟨r, hr⟩ : ∃ r, hasI l id lo.1 = r := ⟨_, rfl⟩
  obtain ⟨p, hp⟩ : ∃ p, hasI Y id hi.1 = p := ⟨_, rfl⟩
  obtain ⟨n, hn1⟩ : ∃ n, X.length = n := ⟨_, rfl⟩
  obtain ⟨m, hm1⟩ : ∃ m, Y.length = m := ⟨_, rfl⟩
  have q1 : m ≤ n := by rw [← hm1, ← hn1, ← hX, ← hY]; exact old_less hle
  have q2 : n ≤ l.length := by rw [← hn1, ← hX]; exact old_len l lo.1
  have q3 : hasI X id lo.1 = r := by rw [← hX, has_old, hr]
  have q4 : hasI Y id lo.1 = p := by rw [← hp, ← hY]; exact has_both hle
  have q5 : oldI X hi.1 = Y := by rw [← hX, ← hY]; exact old_old hle
  have HRT := Lib.hid (show true = true → r = true from fun h => hr ▸ has_less hle (hbb.trans h))
  have C1 := Lib.hid (show ∀ W, RowIn (encKI .u64) 33 W W.heap.size A c l → Calls Try.prog 14 #[.slice A l.length c, .int .u64 lo.1] W fun e w' => ∃ A' c', e = .returned (.slice A' n c') ∧ RowIn (encKI .u64) 33 w' w'.heap.size A' c' X ∧ Below W.heap.size W w' from fun W h => by have h6 := HOL A c l lo W h (by omega); rw [hX, hn1] at h6; exact h6)
  have C2 := Lib.hid (show ∀ W, RowIn (encKI .u64) 33 W W.heap.size A c l → Calls Try.prog 14 #[.slice A l.length c, .int .u64 hi.1] W fun e w' => ∃ A' c', e = .returned (.slice A' m c') ∧ RowIn (encKI .u64) 33 w' w'.heap.size A' c' Y ∧ Below W.heap.size W w' from fun W h => by have h6 := HOL A c l hi W h (by omega); rw [hY, hm1] at h6; exact h6)
  have C3 := Lib.hid (fun W (h : RowIn (encKI .u64) 33 W W.heap.size A c l) => hbb ▸ HHA A c l id hi W h (by omega))
  have C4 := Lib.hid (fun W (h : RowIn (encKI .u64) 33 W W.heap.size A c l) => hr ▸ HHA A c l id lo W h (by omega))
  have C5 := Lib.hid (show ∀ A' c' W, RowIn (encKI .u64) 33 W W.heap.size A' c' X → Calls Try.prog 12 #[.slice A' n c', .agg (encK id).toArray, .int .u64 lo.1] W fun e w' => e = .returned (.bool r) ∧ Below W.heap.size W w' from fun A' c' W h => by have h6 := HHA A' c' X id lo W h (by omega); rw [q3, hn1] at h6; exact h6)
  have C6 := Lib.hid (show ∀ A' c' W, RowIn (encKI .u64) 33 W W.heap.size A' c' Y → Calls Try.prog 12 #[.slice A' m c', .agg (encK id).toArray, .int .u64 lo.1] W fun e w' => e = .returned (.bool p) ∧ Below W.heap.size W w' from fun A' c' W h => by have h6 := HHA A' c' Y id lo W h (by omega); rw [q4, hm1] at h6; exact h6)
  have C7 := Lib.hid (show ∀ A' c' W, RowIn (encKI .u64) 33 W W.heap.size A' c' Y → Calls Try.prog 12 #[.slice A' m c', .agg (encK id).toArray, .int .u64 hi.1] W fun e w' => e = .returned (.bool p) ∧ Below W.heap.size W w' from fun A' c' W h => by have h6 := HHA A' c' Y id hi W h (by omega); rw [hp, hm1] at h6; exact h6)
  have C8 := Lib.hid (show ∀ A' c' W, RowIn (encKI .u64) 33 W W.heap.size A' c' X → Calls Try.prog 14 #[.slice A' n c', .int .u64 hi.1] W fun e w' => ∃ A2 c2, e = .returned (.slice A2 m c2) ∧ Below W.heap.size W w' from fun A' c' W h => by
    have h6 := HOL A' c' X hi W h (by omega)
    rw [q5, hm1, hn1] at h6
    exact h6.mono fun _ _ ⟨A2, c2, h1, _, h3⟩ => ⟨A2, c2, h1, h3⟩)
  have HLL := Lib.hid (show ∀ W, Below w.heap.size w W → RowIn (encKI .u64) 33 W W.heap.size A c l from fun W h => (hl.below h).more h.size)
  have hq1 : decide ((m : Int) ≤ (n : Int)) = true := by simp; omega
  have hq2 : decide ((n : Int) ≤ (l.length : Int)) = true := by simp; omega
  obtain ⟨lv, hlv⟩ : ∃ v, lo.1 = v := ⟨_, rfl⟩
  obtain ⟨hv, hhv⟩ : ∃ v, hi.1 = v := ⟨_, rfl⟩
  rw [hlv] at C1 C4 C5 C6 hlo
  rw [hhv] at C2 C3 C7 C8 hhi
  have hlo2 := hlo.symm
  have hhi2 := hhi.symm
  clear HPU HHA HOL hl hn hr hp hX hY hn1 hm1 q3 q4 q5 hb hbb hle hlv hhv hlo hhi
  go_enter Try.func6, Try.ntmps6
  go_wp2_with fail
  refine (SH.out _).mono ?_
  rintro e w1 ⟨rfl, b1⟩
  have H1 := Lib.hid (H0.out.call b1)
  clear b1 H0
  go_wp2_with fail
  refine (C1.out _ (HLL.out _ H1.out.below)).mono ?_
  rintro e w2 ⟨A2, c2, rfl, r2, b2⟩
  have H2 := Lib.hid (H1.out.call b2)
  have R2 := Lib.hid r2
  clear b2 r2 H1
  go_wp2_with fail
  refine (C2.out _ (HLL.out _ H2.out.below)).mono ?_
  rintro e w3 ⟨A3, c3, rfl, r3', b3⟩
  have H3 := Lib.hid (H2.out.call b3)
  have R3 := Lib.hid (show RowIn (encKI .u64) 33 w3.drew w3.drew.heap.size A3 c3 Y from (r3'.below (Below.refl _ _).drew).more (Nat.le_refl _))
  have R2b := Lib.hid (show RowIn (encKI .u64) 33 w3.drew w3.drew.heap.size A2 c2 X from (((R2.out.below b3).more b3.size).below (Below.refl _ _).drew).more (Nat.le_refl _))
  clear b3 r3' R2 H2
  go_wp2_with fail
  refine wp_region_held_drew (S := Holds w [(w.heap.size, 24, (encK id).toArray)]) (by kernel_rfl) (H3.out.call (Below.refl _ _).drew) ?_
  intro hS
  refine wpAnyH_take (i := 0) (v := .slice A3 m c3) rfl (by kernel_rfl) (by kernel_rfl) (by kernel_rfl) (fun _ _ _ h => h) (Or.inl ⟨by rfl, fun W _ => by go_simp; try with_reducible rfl⟩) hS ?_
  simp only [Act.put, List.getElem_toArray, List.getElem_cons_zero, List.setIfInBounds_toArray, List.set_cons_succ, List.set_cons_zero]
  refine wpAnyH_take (i := 1) (v := .int .i64 (m : Int)) rfl (by kernel_rfl) (by kernel_rfl) (by kernel_rfl) (fun _ _ _ h => h) (Or.inl ⟨by rfl, fun W _ => by go_simp; try with_reducible rfl⟩) hS ?_
  simp only [Act.put, List.getElem_toArray, List.getElem_cons_zero, List.getElem_cons_succ, List.setIfInBounds_toArray, List.set_cons_succ, List.set_cons_zero]
  refine wpAnyH_take (i := 2) (v := .slice A2 n c2) rfl (by kernel_rfl) (by kernel_rfl) (by kernel_rfl) (fun _ _ _ h => h) (Or.inl ⟨by rfl, fun W _ => by go_simp; try with_reducible rfl⟩) hS ?_
  simp only [Act.put, List.getElem_toArray, List.getElem_cons_zero, List.getElem_cons_succ, List.setIfInBounds_toArray, List.set_cons_succ, List.set_cons_zero]
  refine wpAnyH_take (i := 3) (v := .int .i64 (n : Int)) rfl (by kernel_rfl) (by kernel_rfl) (by kernel_rfl) (fun _ _ _ h => h) (Or.inl ⟨by rfl, fun W _ => by go_simp; try with_reducible rfl⟩) hS ?_
  simp only [Act.put, List.getElem_toArray, List.getElem_cons_zero, List.getElem_cons_succ, List.setIfInBounds_toArray, List.set_cons_succ, List.set_cons_zero]
  refine wpAnyH_take (i := 4) (v := .bool true) rfl (by kernel_rfl) (by kernel_rfl) (by kernel_rfl) (fun _ _ _ h => h) (Or.inl ⟨by rfl, fun W _ => by go_simp; try with_reducible rfl⟩) hS ?_
  simp only [Act.put, List.getElem_toArray, List.getElem_cons_zero, List.getElem_cons_succ, List.setIfInBounds_toArray, List.set_cons_succ, List.set_cons_zero]
  refine wpAnyH_take (i := 5) (v := .bool true) rfl (by kernel_rfl) (by kernel_rfl) (by kernel_rfl) (fun _ _ _ h => h) (Or.inl ⟨by rfl, fun W _ => by go_simp; try with_reducible rfl⟩) hS ?_
  simp only [Act.put, List.getElem_toArray, List.getElem_cons_zero, List.getElem_cons_succ, List.setIfInBounds_toArray, List.set_cons_succ, List.set_cons_zero]
  refine wpAnyH_take (i := 6) (v := .slice A2 n c2) rfl (by kernel_rfl) (by kernel_rfl) (by kernel_rfl) (fun _ _ _ h => h) (Or.inl ⟨by rfl, fun W _ => by go_simp; try with_reducible rfl⟩) hS ?_
  simp only [Act.put, List.getElem_toArray, List.getElem_cons_zero, List.getElem_cons_succ, List.setIfInBounds_toArray, List.set_cons_succ, List.set_cons_zero]
  refine wpAnyH_take (i := 7) (v := .int .i64 (n : Int)) rfl (by kernel_rfl) (by kernel_rfl) (by kernel_rfl) (fun _ _ _ h => h) (Or.inl ⟨by rfl, fun W _ => by go_simp; try with_reducible rfl⟩) hS ?_
  simp only [Act.put, List.getElem_toArray, List.getElem_cons_zero, List.getElem_cons_succ, List.setIfInBounds_toArray, List.set_cons_succ, List.set_cons_zero]
  refine wpAnyH_take (i := 8) (v := .slice A l.length c) rfl (by kernel_rfl) (by kernel_rfl) (by kernel_rfl) (fun _ _ _ h => h) (Or.inl ⟨by rfl, fun W _ => by go_simp; try with_reducible rfl⟩) hS ?_
  simp only [Act.put, List.getElem_toArray, List.getElem_cons_zero, List.getElem_cons_succ, List.setIfInBounds_toArray, List.set_cons_succ, List.set_cons_zero]
  refine wpAnyH_take (i := 9) (v := .int .i64 (l.length : Int)) rfl (by kernel_rfl) (by kernel_rfl) (by kernel_rfl) (fun _ _ _ h => h) (Or.inl ⟨by rfl, fun W _ => by go_simp; try with_reducible rfl⟩) hS ?_
  simp only [Act.put, List.getElem_toArray, List.getElem_cons_zero, List.getElem_cons_succ, List.setIfInBounds_toArray, List.set_cons_succ, List.set_cons_zero]
  refine wpAnyH_take (i := 10) (v := .bool true) rfl (by kernel_rfl) (by kernel_rfl) (by kernel_rfl) (fun _ _ _ h => h) (Or.inl ⟨by rfl, fun W _ => by go_simp; try with_reducible rfl⟩) hS ?_
  simp only [Act.put, List.getElem_toArray, List.getElem_cons_zero, List.getElem_cons_succ, List.setIfInBounds_toArray, List.set_cons_succ, List.set_cons_zero]
  refine wpAnyH_take (i := 11) (v := .bool true) rfl (by kernel_rfl) (by kernel_rfl) (by kernel_rfl) (fun _ _ _ h => h) (Or.inl ⟨by rfl, fun W _ => by go_simp; try with_reducible rfl⟩) hS ?_
  simp only [Act.put, List.getElem_toArray, List.getElem_cons_zero, List.getElem_cons_succ, List.setIfInBounds_toArray, List.set_cons_succ, List.set_cons_zero]
  refine wpAnyH_take (i := 12) (v := .bool true) rfl (by kernel_rfl) (by kernel_rfl) (by kernel_rfl) (fun _ _ _ h => h) (Or.inl ⟨by rfl, fun W _ => by go_simp; try with_reducible rfl⟩) hS ?_
  simp only [Act.put, List.getElem_toArray, List.getElem_cons_zero, List.getElem_cons_succ, List.setIfInBounds_toArray, List.set_cons_succ, List.set_cons_zero]
  refine wpAnyH_take (i := 13) (v := .slice A l.length c) rfl (by kernel_rfl) (by kernel_rfl) (by kernel_rfl) (fun _ _ _ h => h) (Or.inl ⟨by rfl, fun W _ => by go_simp; try with_reducible rfl⟩) hS ?_
  simp only [Act.put, List.getElem_toArray, List.getElem_cons_zero, List.getElem_cons_succ, List.setIfInBounds_toArray, List.set_cons_succ, List.set_cons_zero]
  refine wpAnyH_take (i := 14) (v := .agg (encK id).toArray) rfl (by kernel_rfl) (by kernel_rfl) (by kernel_rfl) (fun _ _ _ h => h) (tyKc.yieldsIf_load (by rfl) (.tmp 7) rfl w.heap.size 0 rfl id (fun _ h => RowC.of_blk (h.at (x := (w.heap.size, 24, (encK id).toArray)) (by simp)))) hS ?_
  simp only [Act.put, List.getElem_toArray, List.getElem_cons_zero, List.getElem_cons_succ, List.setIfInBounds_toArray, List.set_cons_succ, List.set_cons_zero]
  refine wpAnyH_take (i := 15) (v := .int .u64 hv) rfl (by kernel_rfl) (by kernel_rfl) (by kernel_rfl) (fun _ _ _ h => h) (Or.inl ⟨by rfl, fun W _ => by go_simp; try with_reducible rfl⟩) hS ?_
  simp only [Act.put, List.getElem_toArray, List.getElem_cons_zero, List.getElem_cons_succ, List.setIfInBounds_toArray, List.set_cons_succ, List.set_cons_zero]
  refine wpAnyH_ready (rs := [16]) (by kernel_rfl) (by simp) ?_
  refine AllReadyH.cons rfl (fun Kq hK => ?_) AllReadyH.nil
  go_simp
  with_reducible refine (C3.out _ (HLL.out _ hS.below)).mono ?_
  rintro e y16 ⟨rfl, bq⟩
  have R32 := Lib.hid ((R3.out.below bq).more bq.size)
  clear R3
  have R3 := R32
  clear R32
  have R2b2 := Lib.hid ((R2b.out.below bq).more bq.size)
  clear R2b
  have R2b := R2b2
  clear R2b2
  refine hK.out _ _ (hS.call bq) (fun hS => ?_)
  clear hK Kq bq
  try simp only [Act.put, List.getElem_toArray, List.getElem_cons_zero, List.getElem_cons_succ, List.setIfInBounds_toArray, List.set_cons_succ, List.set_cons_zero]
  refine wpAnyH_take (i := 17) (v := .bool false) rfl (by kernel_rfl) (by kernel_rfl) (by kernel_rfl) (fun _ _ _ h => h) (Or.inl ⟨by rfl, fun W _ => by go_simp; try with_reducible rfl⟩) hS ?_
  simp only [Act.put, List.getElem_toArray, List.getElem_cons_zero, List.getElem_cons_succ, List.setIfInBounds_toArray, List.set_cons_succ, List.set_cons_zero]
  refine wpAnyH_take (i := 18) (v := .bool false) rfl (by kernel_rfl) (by kernel_rfl) (by kernel_rfl) (fun _ _ _ h => h) (Or.inl ⟨by rfl, fun W _ => by go_simp; try with_reducible rfl⟩) hS ?_
  simp only [Act.put, List.getElem_toArray, List.getElem_cons_zero, List.getElem_cons_succ, List.setIfInBounds_toArray, List.set_cons_succ, List.set_cons_zero]
  refine wpAnyH_take (i := 19) (v := .slice A l.length c) rfl (by kernel_rfl) (by kernel_rfl) (by kernel_rfl) (fun _ _ _ h => h) (Or.inl ⟨by rfl, fun W _ => by go_simp; try with_reducible rfl⟩) hS ?_
  simp only [Act.put, List.getElem_toArray, List.getElem_cons_zero, List.getElem_cons_succ, List.setIfInBounds_toArray, List.set_cons_succ, List.set_cons_zero]
  refine wpAnyH_take (i := 20) (v := .agg (encK id).toArray) rfl (by kernel_rfl) (by kernel_rfl) (by kernel_rfl) (fun _ _ _ h => h) (tyKc.yieldsIf_load (by rfl) (.tmp 7) rfl w.heap.size 0 rfl id (fun _ h => RowC.of_blk (h.at (x := (w.heap.size, 24, (encK id).toArray)) (by simp)))) hS ?_
  simp only [Act.put, List.getElem_toArray, List.getElem_cons_zero, List.getElem_cons_succ, List.setIfInBounds_toArray, List.set_cons_succ, List.set_cons_zero]
  refine wpAnyH_take (i := 21) (v := .int .u64 lv) rfl (by kernel_rfl) (by kernel_rfl) (by kernel_rfl) (fun _ _ _ h => h) (Or.inl ⟨by rfl, fun W _ => by go_simp; try with_reducible rfl⟩) hS ?_
  simp only [Act.put, List.getElem_toArray, List.getElem_cons_zero, List.getElem_cons_succ, List.setIfInBounds_toArray, List.set_cons_succ, List.set_cons_zero]
  have hrt := HRT.out (by simp)
  subst hrt
  refine wpAnyH_ready (rs := [22]) (by kernel_rfl) (by simp) ?_
  refine AllReadyH.cons rfl (fun Kq hK => ?_) AllReadyH.nil
  go_simp
  with_reducible refine (C4.out _ (HLL.out _ hS.below)).mono ?_
  rintro e y22 ⟨rfl, bq⟩
  have R32 := Lib.hid ((R3.out.below bq).more bq.size)
  clear R3
  have R3 := R32
  clear R32
  have R2b2 := Lib.hid ((R2b.out.below bq).more bq.size)
  clear R2b
  have R2b := R2b2
  clear R2b2
  refine hK.out _ _ (hS.call bq) (fun hS => ?_)
  clear hK Kq bq
  try simp only [Act.put, List.getElem_toArray, List.getElem_cons_zero, List.getElem_cons_succ, List.setIfInBounds_toArray, List.set_cons_succ, List.set_cons_zero]
  refine wpAnyH_take (i := 23) (v := .bool true) rfl (by kernel_rfl) (by kernel_rfl) (by kernel_rfl) (fun _ _ _ h => h) (Or.inl ⟨by rfl, fun W _ => by go_simp; try with_reducible rfl⟩) hS ?_
  simp only [Act.put, List.getElem_toArray, List.getElem_cons_zero, List.getElem_cons_succ, List.setIfInBounds_toArray, List.set_cons_succ, List.set_cons_zero]
  refine wpAnyH_take (i := 24) (v := .bool true) rfl (by kernel_rfl) (by kernel_rfl) (by kernel_rfl) (fun _ _ _ h => h) (Or.inl ⟨by rfl, fun W _ => by go_simp; try with_reducible rfl⟩) hS ?_
  simp only [Act.put, List.getElem_toArray, List.getElem_cons_zero, List.getElem_cons_succ, List.setIfInBounds_toArray, List.set_cons_succ, List.set_cons_zero]
  refine wpAnyH_take (i := 25) (v := .bool true) rfl (by kernel_rfl) (by kernel_rfl) (by kernel_rfl) (fun _ _ _ h => h) (Or.inl ⟨by rfl, fun W _ => by go_simp; try with_reducible rfl⟩) hS ?_
  simp only [Act.put, List.getElem_toArray, List.getElem_cons_zero, List.getElem_cons_succ, List.setIfInBounds_toArray, List.set_cons_succ, List.set_cons_zero]
  refine wpAnyH_take (i := 26) (v := .slice A2 n c2) rfl (by kernel_rfl) (by kernel_rfl) (by kernel_rfl) (fun _ _ _ h => h) (Or.inl ⟨by rfl, fun W _ => by go_simp; try with_reducible rfl⟩) hS ?_
  simp only [Act.put, List.getElem_toArray, List.getElem_cons_zero, List.getElem_cons_succ, List.setIfInBounds_toArray, List.set_cons_succ, List.set_cons_zero]
  refine wpAnyH_take (i := 27) (v := .agg (encK id).toArray) rfl (by kernel_rfl) (by kernel_rfl) (by kernel_rfl) (fun _ _ _ h => h) (tyKc.yieldsIf_load (by rfl) (.tmp 7) rfl w.heap.size 0 rfl id (fun _ h => RowC.of_blk (h.at (x := (w.heap.size, 24, (encK id).toArray)) (by simp)))) hS ?_
  simp only [Act.put, List.getElem_toArray, List.getElem_cons_zero, List.getElem_cons_succ, List.setIfInBounds_toArray, List.set_cons_succ, List.set_cons_zero]
  refine wpAnyH_take (i := 28) (v := .int .u64 lv) rfl (by kernel_rfl) (by kernel_rfl) (by kernel_rfl) (fun _ _ _ h => h) (Or.inl ⟨by rfl, fun W _ => by go_simp; try with_reducible rfl⟩) hS ?_
  simp only [Act.put, List.getElem_toArray, List.getElem_cons_zero, List.getElem_cons_succ, List.setIfInBounds_toArray, List.set_cons_succ, List.set_cons_zero]
  refine wpAnyH_take (i := 30) (v := .slice A l.length c) rfl (by kernel_rfl) (by kernel_rfl) (by kernel_rfl) (fun _ _ _ h => h) (Or.inl ⟨by rfl, fun W _ => by go_simp; try with_reducible rfl⟩) hS ?_
  simp only [Act.put, List.getElem_toArray, List.getElem_cons_zero, List.getElem_cons_succ, List.setIfInBounds_toArray, List.set_cons_succ, List.set_cons_zero]
  refine wpAnyH_take (i := 31) (v := .agg (encK id).toArray) rfl (by kernel_rfl) (by kernel_rfl) (by kernel_rfl) (fun _ _ _ h => h) (tyKc.yieldsIf_load (by rfl) (.tmp 7) rfl w.heap.size 0 rfl id (fun _ h => RowC.of_blk (h.at (x := (w.heap.size, 24, (encK id).toArray)) (by simp)))) hS ?_
  simp only [Act.put, List.getElem_toArray, List.getElem_cons_zero, List.getElem_cons_succ, List.setIfInBounds_toArray, List.set_cons_succ, List.set_cons_zero]
  refine wpAnyH_take (i := 32) (v := .int .u64 lv) rfl (by kernel_rfl) (by kernel_rfl) (by kernel_rfl) (fun _ _ _ h => h) (Or.inl ⟨by rfl, fun W _ => by go_simp; try with_reducible rfl⟩) hS ?_
  simp only [Act.put, List.getElem_toArray, List.getElem_cons_zero, List.getElem_cons_succ, List.setIfInBounds_toArray, List.set_cons_succ, List.set_cons_zero]
  refine wpAnyH_ready (rs := [29]) (by kernel_rfl) (by simp) ?_
  refine AllReadyH.cons rfl (fun Kq hK => ?_) AllReadyH.nil
  go_simp
  with_reducible refine (C5.out _ _ _ R2b.out).mono ?_
  rintro e y29 ⟨rfl, bq⟩
  have R32 := Lib.hid ((R3.out.below bq).more bq.size)
  clear R3
  have R3 := R32
  clear R32
  have R2b2 := Lib.hid ((R2b.out.below bq).more bq.size)
  clear R2b
  have R2b := R2b2
  clear R2b2
  refine hK.out _ _ (hS.call bq) (fun hS => ?_)
  clear hK Kq bq
  try simp only [Act.put, List.getElem_toArray, List.getElem_cons_zero, List.getElem_cons_succ, List.setIfInBounds_toArray, List.set_cons_succ, List.set_cons_zero]
  refine wpAnyH_ready (rs := [33]) (by kernel_rfl) (by simp) ?_
  refine AllReadyH.cons rfl (fun Kq hK => ?_) AllReadyH.nil
  go_simp
  with_reducible refine (C4.out _ (HLL.out _ hS.below)).mono ?_
  rintro e y33 ⟨rfl, bq⟩
  have R32 := Lib.hid ((R3.out.below bq).more bq.size)
  clear R3
  have R3 := R32
  clear R32
  have R2b2 := Lib.hid ((R2b.out.below bq).more bq.size)
  clear R2b
  have R2b := R2b2
  clear R2b2
  refine hK.out _ _ (hS.call bq) (fun hS => ?_)
  clear hK Kq bq
  try simp only [Act.put, List.getElem_toArray, List.getElem_cons_zero, List.getElem_cons_succ, List.setIfInBounds_toArray, List.set_cons_succ, List.set_cons_zero]
  refine wpAnyH_take (i := 34) (v := .bool true) rfl (by kernel_rfl) (by kernel_rfl) (by kernel_rfl) (fun _ _ _ h => h) (Or.inl ⟨by rfl, fun W _ => by go_simp; try with_reducible rfl⟩) hS ?_
  simp only [Act.put, List.getElem_toArray, List.getElem_cons_zero, List.getElem_cons_succ, List.setIfInBounds_toArray, List.set_cons_succ, List.set_cons_zero]
  refine wpAnyH_take (i := 35) (v := .bool true) rfl (by kernel_rfl) (by kernel_rfl) (by kernel_rfl) (fun _ _ _ h => h) (Or.inl ⟨by rfl, fun W _ => by go_simp; try with_reducible rfl⟩) hS ?_
  simp only [Act.put, List.getElem_toArray, List.getElem_cons_zero, List.getElem_cons_succ, List.setIfInBounds_toArray, List.set_cons_succ, List.set_cons_zero]
  refine wpAnyH_take (i := 36) (v := .bool true) rfl (by kernel_rfl) (by kernel_rfl) (by kernel_rfl) (fun _ _ _ h => h) (Or.inl ⟨by rfl, fun W _ => by go_simp; try with_reducible rfl⟩) hS ?_
  simp only [Act.put, List.getElem_toArray, List.getElem_cons_zero, List.getElem_cons_succ, List.setIfInBounds_toArray, List.set_cons_succ, List.set_cons_zero]
  refine wpAnyH_take (i := 37) (v := .slice A3 m c3) rfl (by kernel_rfl) (by kernel_rfl) (by kernel_rfl) (fun _ _ _ h => h) (Or.inl ⟨by rfl, fun W _ => by go_simp; try with_reducible rfl⟩) hS ?_
  simp only [Act.put, List.getElem_toArray, List.getElem_cons_zero, List.getElem_cons_succ, List.setIfInBounds_toArray, List.set_cons_succ, List.set_cons_zero]
  refine wpAnyH_take (i := 38) (v := .agg (encK id).toArray) rfl (by kernel_rfl) (by kernel_rfl) (by kernel_rfl) (fun _ _ _ h => h) (tyKc.yieldsIf_load (by rfl) (.tmp 7) rfl w.heap.size 0 rfl id (fun _ h => RowC.of_blk (h.at (x := (w.heap.size, 24, (encK id).toArray)) (by simp)))) hS ?_
  simp only [Act.put, List.getElem_toArray, List.getElem_cons_zero, List.getElem_cons_succ, List.setIfInBounds_toArray, List.set_cons_succ, List.set_cons_zero]
  refine wpAnyH_take (i := 39) (v := .int .u64 lv) rfl (by kernel_rfl) (by kernel_rfl) (by kernel_rfl) (fun _ _ _ h => h) (Or.inl ⟨by rfl, fun W _ => by go_simp; try with_reducible rfl⟩) hS ?_
  simp only [Act.put, List.getElem_toArray, List.getElem_cons_zero, List.getElem_cons_succ, List.setIfInBounds_toArray, List.set_cons_succ, List.set_cons_zero]
  refine wpAnyH_take (i := 41) (v := .slice A3 m c3) rfl (by kernel_rfl) (by kernel_rfl) (by kernel_rfl) (fun _ _ _ h => h) (Or.inl ⟨by rfl, fun W _ => by go_simp; try with_reducible rfl⟩) hS ?_
  simp only [Act.put, List.getElem_toArray, List.getElem_cons_zero, List.getElem_cons_succ, List.setIfInBounds_toArray, List.set_cons_succ, List.set_cons_zero]
  refine wpAnyH_take (i := 42) (v := .agg (encK id).toArray) rfl (by kernel_rfl) (by kernel_rfl) (by kernel_rfl) (fun _ _ _ h => h) (tyKc.yieldsIf_load (by rfl) (.tmp 7) rfl w.heap.size 0 rfl id (fun _ h => RowC.of_blk (h.at (x := (w.heap.size, 24, (encK id).toArray)) (by simp)))) hS ?_
  simp only [Act.put, List.getElem_toArray, List.getElem_cons_zero, List.getElem_cons_succ, List.setIfInBounds_toArray, List.set_cons_succ, List.set_cons_zero]
  refine wpAnyH_take (i := 43) (v := .int .u64 hv) rfl (by kernel_rfl) (by kernel_rfl) (by kernel_rfl) (fun _ _ _ h => h) (Or.inl ⟨by rfl, fun W _ => by go_simp; try with_reducible rfl⟩) hS ?_
  simp only [Act.put, List.getElem_toArray, List.getElem_cons_zero, List.getElem_cons_succ, List.setIfInBounds_toArray, List.set_cons_succ, List.set_cons_zero]
  refine wpAnyH_ready (rs := [40]) (by kernel_rfl) (by simp) ?_
  refine AllReadyH.cons rfl (fun Kq hK => ?_) AllReadyH.nil
  go_simp
  with_reducible refine (C6.out _ _ _ R3.out).mono ?_
  rintro e y40 ⟨rfl, bq⟩
  have R32 := Lib.hid ((R3.out.below bq).more bq.size)
  clear R3
  have R3 := R32
  clear R32
  have R2b2 := Lib.hid ((R2b.out.below bq).more bq.size)
  clear R2b
  have R2b := R2b2
  clear R2b2
  refine hK.out _ _ (hS.call bq) (fun hS => ?_)
  clear hK Kq bq
  try simp only [Act.put, List.getElem_toArray, List.getElem_cons_zero, List.getElem_cons_succ, List.setIfInBounds_toArray, List.set_cons_succ, List.set_cons_zero]
  refine wpAnyH_ready (rs := [44]) (by kernel_rfl) (by simp) ?_
  refine AllReadyH.cons rfl (fun Kq hK => ?_) AllReadyH.nil
  go_simp
  with_reducible refine (C7.out _ _ _ R3.out).mono ?_
  rintro e y44 ⟨rfl, bq⟩
  have R32 := Lib.hid ((R3.out.below bq).more bq.size)
  clear R3
  have R3 := R32
  clear R32
  have R2b2 := Lib.hid ((R2b.out.below bq).more bq.size)
  clear R2b
  have R2b := R2b2
  clear R2b2
  refine hK.out _ _ (hS.call bq) (fun hS => ?_)
  clear hK Kq bq
  try simp only [Act.put, List.getElem_toArray, List.getElem_cons_zero, List.getElem_cons_succ, List.setIfInBounds_toArray, List.set_cons_succ, List.set_cons_zero]
  refine wpAnyH_take (i := 45) (v := .bool true) rfl (by kernel_rfl) (by kernel_rfl) (by kernel_rfl) (fun _ _ _ h => h) (Or.inl ⟨by rfl, fun W _ => by go_simp; try with_reducible rfl⟩) hS ?_
  simp only [Act.put, List.getElem_toArray, List.getElem_cons_zero, List.getElem_cons_succ, List.setIfInBounds_toArray, List.set_cons_succ, List.set_cons_zero]
  refine wpAnyH_take (i := 46) (v := .bool true) rfl (by kernel_rfl) (by kernel_rfl) (by kernel_rfl) (fun _ _ _ h => h) (Or.inl ⟨by rfl, fun W _ => by go_simp; try with_reducible rfl⟩) hS ?_
  simp only [Act.put, List.getElem_toArray, List.getElem_cons_zero, List.getElem_cons_succ, List.setIfInBounds_toArray, List.set_cons_succ, List.set_cons_zero]
  refine wpAnyH_take (i := 47) (v := .bool true) rfl (by kernel_rfl) (by kernel_rfl) (by kernel_rfl) (fun _ _ _ h => h) (Or.inl ⟨by rfl, fun W _ => by go_simp; try with_reducible rfl⟩) hS ?_
  simp only [Act.put, List.getElem_toArray, List.getElem_cons_zero, List.getElem_cons_succ, List.setIfInBounds_toArray, List.set_cons_succ, List.set_cons_zero]
  refine wpAnyH_take (i := 48) (v := .slice A2 n c2) rfl (by kernel_rfl) (by kernel_rfl) (by kernel_rfl) (fun _ _ _ h => h) (Or.inl ⟨by rfl, fun W _ => by go_simp; try with_reducible rfl⟩) hS ?_
  simp only [Act.put, List.getElem_toArray, List.getElem_cons_zero, List.getElem_cons_succ, List.setIfInBounds_toArray, List.set_cons_succ, List.set_cons_zero]
  refine wpAnyH_take (i := 49) (v := .int .u64 hv) rfl (by kernel_rfl) (by kernel_rfl) (by kernel_rfl) (fun _ _ _ h => h) (Or.inl ⟨by rfl, fun W _ => by go_simp; try with_reducible rfl⟩) hS ?_
  simp only [Act.put, List.getElem_toArray, List.getElem_cons_zero, List.getElem_cons_succ, List.setIfInBounds_toArray, List.set_cons_succ, List.set_cons_zero]
  refine wpAnyH_take (i := 52) (v := .slice A3 m c3) rfl (by kernel_rfl) (by kernel_rfl) (by kernel_rfl) (fun _ _ _ h => h) (Or.inl ⟨by rfl, fun W _ => by go_simp; try with_reducible rfl⟩) hS ?_
  simp only [Act.put, List.getElem_toArray, List.getElem_cons_zero, List.getElem_cons_succ, List.setIfInBounds_toArray, List.set_cons_succ, List.set_cons_zero]
  refine wpAnyH_take (i := 53) (v := .int .i64 (m : Int)) rfl (by kernel_rfl) (by kernel_rfl) (by kernel_rfl) (fun _ _ _ h => h) (Or.inl ⟨by rfl, fun W _ => by go_simp; try with_reducible rfl⟩) hS ?_
  simp only [Act.put, List.getElem_toArray, List.getElem_cons_zero, List.getElem_cons_succ, List.setIfInBounds_toArray, List.set_cons_succ, List.set_cons_zero]
  refine wpAnyH_ready (rs := [50]) (by kernel_rfl) (by simp) ?_
  refine AllReadyH.cons rfl (fun Kq hK => ?_) AllReadyH.nil
  go_simp
  with_reducible refine (C8.out _ _ _ R2b.out).mono ?_
  rintro e y50 ⟨A9, c9, rfl, bq⟩
  refine hK.out _ _ (hS.call bq) (fun hS => ?_)
  clear hK Kq bq
  try simp only [Act.put, List.getElem_toArray, List.getElem_cons_zero, List.getElem_cons_succ, List.setIfInBounds_toArray, List.set_cons_succ, List.set_cons_zero]
  refine wpAnyH_take (i := 51) (v := .int .i64 (m : Int)) rfl (by kernel_rfl) (by kernel_rfl) (by kernel_rfl) (fun _ _ _ h => h) (Or.inl ⟨by rfl, fun W _ => by go_simp; try with_reducible rfl⟩) hS ?_
  simp only [Act.put, List.getElem_toArray, List.getElem_cons_zero, List.getElem_cons_succ, List.setIfInBounds_toArray, List.set_cons_succ, List.set_cons_zero]
  refine wpAnyH_take (i := 54) (v := .bool true) rfl (by kernel_rfl) (by kernel_rfl) (by kernel_rfl) (fun _ _ _ h => h) (Or.inl ⟨by rfl, fun W _ => by go_simp; try with_reducible rfl⟩) hS ?_
  simp only [Act.put, List.getElem_toArray, List.getElem_cons_zero, List.getElem_cons_succ, List.setIfInBounds_toArray, List.set_cons_succ, List.set_cons_zero]
  refine wpAnyH_take (i := 55) (v := .bool true) rfl (by kernel_rfl) (by kernel_rfl) (by kernel_rfl) (fun _ _ _ h => h) (Or.inl ⟨by rfl, fun W _ => by go_simp; try with_reducible rfl⟩) hS ?_
  simp only [Act.put, List.getElem_toArray, List.getElem_cons_zero, List.getElem_cons_succ, List.setIfInBounds_toArray, List.set_cons_succ, List.set_cons_zero]
  refine wpAnyH_ready (rs := [56]) (by kernel_rfl) (by simp) ?_
  refine AllReadyH.cons rfl (fun Kq hK => ?_) AllReadyH.nil
  go_simp
  refine hK.out _ _ hS (fun hS => ?_)
  clear hK Kq
  refine wpAnyH_done (by kernel_rfl) ?_ _
  have B9 := Lib.hid hS.below
  clear hS
  go_wp2_with fail
  go_ret
  exact ⟨by first | rfl | simp, B9.out⟩
set_option maxRecDepth 20000 in
set_option maxHeartbeats 8000000 in
theorem rcOver_f (HPU : RPutOk) (HHA : RHasOk) (HOL : ROldOk) (A : Option Addr) (c : Nat) (l : List ItV) (a b : IntV .u64) (id : K32) (w : World) (hl : RowIn (encKI .u64) 33 w w.heap.size A c l) (hn : l.length ≤ 200) (hb : hasI l id (max a.1 b.1) = false) :
    Calls Try.prog 6 #[.slice A l.length c, .int .u64 a.1, .int .u64 b.1, .agg (encK id).toArray] w fun e w' => e = .returned (.bool true) ∧ Below w.heap.size w w' := by
  have SH := Lib.hid (fun W => ishown_any HPU HHA W)
  have H0 := Lib.hid (show Holds w [(w.heap.size, 24, (encK id).toArray)] (w.alloc (.cells (encK id).toArray 24)) from (Holds.nil w).box 24 (encK id).toArray)
  have hd : decide ((200 : Int) < (l.length : Int)) = false := by simp; omega
  obtain ⟨lo, hlo⟩ : ∃ lo : IntV .u64, lo.1 = min a.1 b.1 := by
    by_cases h : a.1 ≤ b.1
    · exact ⟨a, by omega⟩
    · exact ⟨b, by omega⟩
  obtain ⟨hi, hhi⟩ : ∃ hi : IntV .u64, hi.1 = max a.1 b.1 := by
    by_cases h : a.1 ≤ b.1
    · exact ⟨b, by omega⟩
    · exact ⟨a, by omega⟩
  have hle : lo.1 ≤ hi.1 := by omega
  have hbb : hasI l id hi.1 = false := by have := hb; rwa [← hhi] at this
  obtain ⟨X, hX⟩ : ∃ X, oldI l lo.1 = X := ⟨_, rfl⟩
  obtain ⟨Y, hY⟩ : ∃ Y, oldI l hi.1 = Y := ⟨_, rfl⟩
  obtain ⟨r, hr⟩ : ∃ r, hasI l id lo.1 = r := ⟨_, rfl⟩
  obtain ⟨p, hp⟩ : ∃ p, hasI Y id hi.1 = p := ⟨_, rfl⟩
  obtain ⟨n, hn1⟩ : ∃ n, X.length = n := ⟨_, rfl⟩
  obtain ⟨m, hm1⟩ : ∃ m, Y.length = m := ⟨_, rfl⟩
  have q1 : m ≤ n := by rw [← hm1, ← hn1, ← hX, ← hY]; exact old_less hle
  have q2 : n ≤ l.length := by rw [← hn1, ← hX]; exact old_len l lo.1
  have q3 : hasI X id lo.1 = r := by rw [← hX, has_old, hr]
  have q4 : hasI Y id lo.1 = p := by rw [← hp, ← hY]; exact has_both hle
  have q5 : oldI X hi.1 = Y := by rw [← hX, ← hY]; exact old_old hle
  have HRT := Lib.hid (show false = true → r = true from fun h => hr ▸ has_less hle (hbb.trans h))
  have C1 := Lib.hid (show ∀ W, RowIn (encKI .u64) 33 W W.heap.size A c l → Calls Try.prog 14 #[.slice A l.length c, .int .u64 lo.1] W fun e w' => ∃ A' c', e = .returned (.slice A' n c') ∧ RowIn (encKI .u64) 33 w' w'.heap.size A' c' X ∧ Below W.heap.size W w' from fun W h => by have h6 := HOL A c l lo W h (by omega); rw [hX, hn1] at h6; exact h6)
  have C2 := Lib.hid (show ∀ W, RowIn (encKI .u64) 33 W W.heap.size A c l → Calls Try.prog 14 #[.slice A l.length c, .int .u64 hi.1] W fun e w' => ∃ A' c', e = .returned (.slice A' m c') ∧ RowIn (encKI .u64) 33 w' w'.heap.size A' c' Y ∧ Below W.heap.size W w' from fun W h => by have h6 := HOL A c l hi W h (by omega); rw [hY, hm1] at h6; exact h6)
  have C3 := Lib.hid (fun W (h : RowIn (encKI .u64) 33 W W.heap.size A c l) => hbb ▸ HHA A c l id hi W h (by omega))
  have C4 := Lib.hid (fun W (h : RowIn (encKI .u64) 33 W W.heap.size A c l) => hr ▸ HHA A c l id lo W h (by omega))
  have C5 := Lib.hid (show ∀ A' c' W, RowIn (encKI .u64) 33 W W.heap.size A' c' X → Calls Try.prog 12 #[.slice A' n c', .agg (encK id).toArray, .int .u64 lo.1] W fun e w' => e = .returned (.bool r) ∧ Below W.heap.size W w' from fun A' c' W h => by have h6 := HHA A' c' X id lo W h (by omega); rw [q3, hn1] at h6; exact h6)
  have C6 := Lib.hid (show ∀ A' c' W, RowIn (encKI .u64) 33 W W.heap.size A' c' Y → Calls Try.prog 12 #[.slice A' m c', .agg (encK id).toArray, .int .u64 lo.1] W fun e w' => e = .returned (.bool p) ∧ Below W.heap.size W w' from fun A' c' W h => by have h6 := HHA A' c' Y id lo W h (by omega); rw [q4, hm1] at h6; exact h6)
  have C7 := Lib.hid (show ∀ A' c' W, RowIn (encKI .u64) 33 W W.heap.size A' c' Y → Calls Try.prog 12 #[.slice A' m c', .agg (encK id).toArray, .int .u64 hi.1] W fun e w' => e = .returned (.bool p) ∧ Below W.heap.size W w' from fun A' c' W h => by have h6 := HHA A' c' Y id hi W h (by omega); rw [hp, hm1] at h6; exact h6)
  have C8 := Lib.hid (show ∀ A' c' W, RowIn (encKI .u64) 33 W W.heap.size A' c' X → Calls Try.prog 14 #[.slice A' n c', .int .u64 hi.1] W fun e w' => ∃ A2 c2, e = .returned (.slice A2 m c2) ∧ Below W.heap.size W w' from fun A' c' W h => by
    have h6 := HOL A' c' X hi W h (by omega)
    rw [q5, hm1, hn1] at h6
    exact h6.mono fun _ _ ⟨A2, c2, h1, _, h3⟩ => ⟨A2, c2, h1, h3⟩)
  have HLL := Lib.hid (show ∀ W, Below w.heap.size w W → RowIn (encKI .u64) 33 W W.heap.size A c l from fun W h => (hl.below h).more h.size)
  have hq1 : decide ((m : Int) ≤ (n : Int)) = true := by simp; omega
  have hq2 : decide ((n : Int) ≤ (l.length : Int)) = true := by simp; omega
  obtain ⟨lv, hlv⟩ : ∃ v, lo.1 = v := ⟨_, rfl⟩
  obtain ⟨hv, hhv⟩ : ∃ v, hi.1 = v := ⟨_, rfl⟩
  rw [hlv] at C1 C4 C5 C6 hlo
  rw [hhv] at C2 C3 C7 C8 hhi
  have hlo2 := hlo.symm
  have hhi2 := hhi.symm
  clear HPU HHA HOL hl hn hr hp hX hY hn1 hm1 q3 q4 q5 hb hbb hle hlv hhv hlo hhi
  go_enter Try.func6, Try.ntmps6
  go_wp2_with fail
  refine (SH.out _).mono ?_
  rintro e w1 ⟨rfl, b1⟩
  have H1 := Lib.hid (H0.out.call b1)
  clear b1 H0
  go_wp2_with fail
  refine (C1.out _ (HLL.out _ H1.out.below)).mono ?_
  rintro e w2 ⟨A2, c2, rfl, r2, b2⟩
  have H2 := Lib.hid (H1.out.call b2)
  have R2 := Lib.hid r2
  clear b2 r2 H1
  go_wp2_with fail
  refine (C2.out _ (HLL.out _ H2.out.below)).mono ?_
  rintro e w3 ⟨A3, c3, rfl, r3', b3⟩
  have H3 := Lib.hid (H2.out.call b3)
  have R3 := Lib.hid (show RowIn (encKI .u64) 33 w3.drew w3.drew.heap.size A3 c3 Y from (r3'.below (Below.refl _ _).drew).more (Nat.le_refl _))
  have R2b := Lib.hid (show RowIn (encKI .u64) 33 w3.drew w3.drew.heap.size A2 c2 X from (((R2.out.below b3).more b3.size).below (Below.refl _ _).drew).more (Nat.le_refl _))
  clear b3 r3' R2 H2
  go_wp2_with fail
  refine wp_region_held_drew (S := Holds w [(w.heap.size, 24, (encK id).toArray)]) (by kernel_rfl) (H3.out.call (Below.refl _ _).drew) ?_
  intro hS
  refine wpAnyH_take (i := 0) (v := .slice A3 m c3) rfl (by kernel_rfl) (by kernel_rfl) (by kernel_rfl) (fun _ _ _ h => h) (Or.inl ⟨by rfl, fun W _ => by go_simp; try with_reducible rfl⟩) hS ?_
  simp only [Act.put, List.getElem_toArray, List.getElem_cons_zero, List.setIfInBounds_toArray, List.set_cons_succ, List.set_cons_zero]
  refine wpAnyH_take (i := 1) (v := .int .i64 (m : Int)) rfl (by kernel_rfl) (by kernel_rfl) (by kernel_rfl) (fun _ _ _ h => h) (Or.inl ⟨by rfl, fun W _ => by go_simp; try with_reducible rfl⟩) hS ?_
  simp only [Act.put, List.getElem_toArray, List.getElem_cons_zero, List.getElem_cons_succ, List.setIfInBounds_toArray, List.set_cons_succ, List.set_cons_zero]
  refine wpAnyH_take (i := 2) (v := .slice A2 n c2) rfl (by kernel_rfl) (by kernel_rfl) (by kernel_rfl) (fun _ _ _ h => h) (Or.inl ⟨by rfl, fun W _ => by go_simp; try with_reducible rfl⟩) hS ?_
  simp only [Act.put, List.getElem_toArray, List.getElem_cons_zero, List.getElem_cons_succ, List.setIfInBounds_toArray, List.set_cons_succ, List.set_cons_zero]
  refine wpAnyH_take (i := 3) (v := .int .i64 (n : Int)) rfl (by kernel_rfl) (by kernel_rfl) (by kernel_rfl) (fun _ _ _ h => h) (Or.inl ⟨by rfl, fun W _ => by go_simp; try with_reducible rfl⟩) hS ?_
  simp only [Act.put, List.getElem_toArray, List.getElem_cons_zero, List.getElem_cons_succ, List.setIfInBounds_toArray, List.set_cons_succ, List.set_cons_zero]
  refine wpAnyH_take (i := 4) (v := .bool true) rfl (by kernel_rfl) (by kernel_rfl) (by kernel_rfl) (fun _ _ _ h => h) (Or.inl ⟨by rfl, fun W _ => by go_simp; try with_reducible rfl⟩) hS ?_
  simp only [Act.put, List.getElem_toArray, List.getElem_cons_zero, List.getElem_cons_succ, List.setIfInBounds_toArray, List.set_cons_succ, List.set_cons_zero]
  refine wpAnyH_take (i := 5) (v := .bool true) rfl (by kernel_rfl) (by kernel_rfl) (by kernel_rfl) (fun _ _ _ h => h) (Or.inl ⟨by rfl, fun W _ => by go_simp; try with_reducible rfl⟩) hS ?_
  simp only [Act.put, List.getElem_toArray, List.getElem_cons_zero, List.getElem_cons_succ, List.setIfInBounds_toArray, List.set_cons_succ, List.set_cons_zero]
  refine wpAnyH_take (i := 6) (v := .slice A2 n c2) rfl (by kernel_rfl) (by kernel_rfl) (by kernel_rfl) (fun _ _ _ h => h) (Or.inl ⟨by rfl, fun W _ => by go_simp; try with_reducible rfl⟩) hS ?_
  simp only [Act.put, List.getElem_toArray, List.getElem_cons_zero, List.getElem_cons_succ, List.setIfInBounds_toArray, List.set_cons_succ, List.set_cons_zero]
  refine wpAnyH_take (i := 7) (v := .int .i64 (n : Int)) rfl (by kernel_rfl) (by kernel_rfl) (by kernel_rfl) (fun _ _ _ h => h) (Or.inl ⟨by rfl, fun W _ => by go_simp; try with_reducible rfl⟩) hS ?_
  simp only [Act.put, List.getElem_toArray, List.getElem_cons_zero, List.getElem_cons_succ, List.setIfInBounds_toArray, List.set_cons_succ, List.set_cons_zero]
  refine wpAnyH_take (i := 8) (v := .slice A l.length c) rfl (by kernel_rfl) (by kernel_rfl) (by kernel_rfl) (fun _ _ _ h => h) (Or.inl ⟨by rfl, fun W _ => by go_simp; try with_reducible rfl⟩) hS ?_
  simp only [Act.put, List.getElem_toArray, List.getElem_cons_zero, List.getElem_cons_succ, List.setIfInBounds_toArray, List.set_cons_succ, List.set_cons_zero]
  refine wpAnyH_take (i := 9) (v := .int .i64 (l.length : Int)) rfl (by kernel_rfl) (by kernel_rfl) (by kernel_rfl) (fun _ _ _ h => h) (Or.inl ⟨by rfl, fun W _ => by go_simp; try with_reducible rfl⟩) hS ?_
  simp only [Act.put, List.getElem_toArray, List.getElem_cons_zero, List.getElem_cons_succ, List.setIfInBounds_toArray, List.set_cons_succ, List.set_cons_zero]
  refine wpAnyH_take (i := 10) (v := .bool true) rfl (by kernel_rfl) (by kernel_rfl) (by kernel_rfl) (fun _ _ _ h => h) (Or.inl ⟨by rfl, fun W _ => by go_simp; try with_reducible rfl⟩) hS ?_
  simp only [Act.put, List.getElem_toArray, List.getElem_cons_zero, List.getElem_cons_succ, List.setIfInBounds_toArray, List.set_cons_succ, List.set_cons_zero]
  refine wpAnyH_take (i := 11) (v := .bool true) rfl (by kernel_rfl) (by kernel_rfl) (by kernel_rfl) (fun _ _ _ h => h) (Or.inl ⟨by rfl, fun W _ => by go_simp; try with_reducible rfl⟩) hS ?_
  simp only [Act.put, List.getElem_toArray, List.getElem_cons_zero, List.getElem_cons_succ, List.setIfInBounds_toArray, List.set_cons_succ, List.set_cons_zero]
  refine wpAnyH_take (i := 12) (v := .bool true) rfl (by kernel_rfl) (by kernel_rfl) (by kernel_rfl) (fun _ _ _ h => h) (Or.inl ⟨by rfl, fun W _ => by go_simp; try with_reducible rfl⟩) hS ?_
  simp only [Act.put, List.getElem_toArray, List.getElem_cons_zero, List.getElem_cons_succ, List.setIfInBounds_toArray, List.set_cons_succ, List.set_cons_zero]
  refine wpAnyH_take (i := 13) (v := .slice A l.length c) rfl (by kernel_rfl) (by kernel_rfl) (by kernel_rfl) (fun _ _ _ h => h) (Or.inl ⟨by rfl, fun W _ => by go_simp; try with_reducible rfl⟩) hS ?_
  simp only [Act.put, List.getElem_toArray, List.getElem_cons_zero, List.getElem_cons_succ, List.setIfInBounds_toArray, List.set_cons_succ, List.set_cons_zero]
  refine wpAnyH_take (i := 14) (v := .agg (encK id).toArray) rfl (by kernel_rfl) (by kernel_rfl) (by kernel_rfl) (fun _ _ _ h => h) (tyKc.yieldsIf_load (by rfl) (.tmp 7) rfl w.heap.size 0 rfl id (fun _ h => RowC.of_blk (h.at (x := (w.heap.size, 24, (encK id).toArray)) (by simp)))) hS ?_
  simp only [Act.put, List.getElem_toArray, List.getElem_cons_zero, List.getElem_cons_succ, List.setIfInBounds_toArray, List.set_cons_succ, List.set_cons_zero]
  refine wpAnyH_take (i := 15) (v := .int .u64 hv) rfl (by kernel_rfl) (by kernel_rfl) (by kernel_rfl) (fun _ _ _ h => h) (Or.inl ⟨by rfl, fun W _ => by go_simp; try with_reducible rfl⟩) hS ?_
  simp only [Act.put, List.getElem_toArray, List.getElem_cons_zero, List.getElem_cons_succ, List.setIfInBounds_toArray, List.set_cons_succ, List.set_cons_zero]
  refine wpAnyH_ready (rs := [16]) (by kernel_rfl) (by simp) ?_
  refine AllReadyH.cons rfl (fun Kq hK => ?_) AllReadyH.nil
  go_simp
  with_reducible refine (C3.out _ (HLL.out _ hS.below)).mono ?_
  rintro e y16 ⟨rfl, bq⟩
  have R32 := Lib.hid ((R3.out.below bq).more bq.size)
  clear R3
  have R3 := R32
  clear R32
  have R2b2 := Lib.hid ((R2b.out.below bq).more bq.size)
  clear R2b
  have R2b := R2b2
  clear R2b2
  refine hK.out _ _ (hS.call bq) (fun hS => ?_)
  clear hK Kq bq
  try simp only [Act.put, List.getElem_toArray, List.getElem_cons_zero, List.getElem_cons_succ, List.setIfInBounds_toArray, List.set_cons_succ, List.set_cons_zero]
  refine wpAnyH_take (i := 17) (v := .bool true) rfl (by kernel_rfl) (by kernel_rfl) (by kernel_rfl) (fun _ _ _ h => h) (Or.inl ⟨by rfl, fun W _ => by go_simp; try with_reducible rfl⟩) hS ?_
  simp only [Act.put, List.getElem_toArray, List.getElem_cons_zero, List.getElem_cons_succ, List.setIfInBounds_toArray, List.set_cons_succ, List.set_cons_zero]
  refine wpAnyH_take (i := 18) (v := .bool true) rfl (by kernel_rfl) (by kernel_rfl) (by kernel_rfl) (fun _ _ _ h => h) (Or.inl ⟨by rfl, fun W _ => by go_simp; try with_reducible rfl⟩) hS ?_
  simp only [Act.put, List.getElem_toArray, List.getElem_cons_zero, List.getElem_cons_succ, List.setIfInBounds_toArray, List.set_cons_succ, List.set_cons_zero]
  refine wpAnyH_take (i := 19) (v := undef) rfl (by kernel_rfl) (by kernel_rfl) (by kernel_rfl) (fun _ _ _ h => h) (Or.inr ⟨by rfl, rfl⟩) hS ?_
  simp only [Act.put, List.getElem_toArray, List.getElem_cons_zero, List.getElem_cons_succ, List.setIfInBounds_toArray, List.set_cons_succ, List.set_cons_zero]
  refine wpAnyH_take (i := 20) (v := undef) rfl (by kernel_rfl) (by kernel_rfl) (by kernel_rfl) (fun _ _ _ h => h) (Or.inr ⟨by rfl, rfl⟩) hS ?_
  simp only [Act.put, List.getElem_toArray, List.getElem_cons_zero, List.getElem_cons_succ, List.setIfInBounds_toArray, List.set_cons_succ, List.set_cons_zero]
  refine wpAnyH_take (i := 21) (v := undef) rfl (by kernel_rfl) (by kernel_rfl) (by kernel_rfl) (fun _ _ _ h => h) (Or.inr ⟨by rfl, rfl⟩) hS ?_
  simp only [Act.put, List.getElem_toArray, List.getElem_cons_zero, List.getElem_cons_succ, List.setIfInBounds_toArray, List.set_cons_succ, List.set_cons_zero]
  refine wpAnyH_take (i := 22) (v := undef) rfl (by kernel_rfl) (by kernel_rfl) (by kernel_rfl) (fun _ _ _ h => h) (Or.inr ⟨by rfl, rfl⟩) hS ?_
  simp only [Act.put, List.getElem_toArray, List.getElem_cons_zero, List.getElem_cons_succ, List.setIfInBounds_toArray, List.set_cons_succ, List.set_cons_zero]
  refine wpAnyH_take (i := 23) (v := .bool true) rfl (by kernel_rfl) (by kernel_rfl) (by kernel_rfl) (fun _ _ _ h => h) (Or.inl ⟨by rfl, fun W _ => by go_simp; try with_reducible rfl⟩) hS ?_
  simp only [Act.put, List.getElem_toArray, List.getElem_cons_zero, List.getElem_cons_succ, List.setIfInBounds_toArray, List.set_cons_succ, List.set_cons_zero]
  refine wpAnyH_take (i := 24) (v := .bool true) rfl (by kernel_rfl) (by kernel_rfl) (by kernel_rfl) (fun _ _ _ h => h) (Or.inl ⟨by rfl, fun W _ => by go_simp; try with_reducible rfl⟩) hS ?_
  simp only [Act.put, List.getElem_toArray, List.getElem_cons_zero, List.getElem_cons_succ, List.setIfInBounds_toArray, List.set_cons_succ, List.set_cons_zero]
  refine wpAnyH_take (i := 25) (v := .bool true) rfl (by kernel_rfl) (by kernel_rfl) (by kernel_rfl) (fun _ _ _ h => h) (Or.inl ⟨by rfl, fun W _ => by go_simp; try with_reducible rfl⟩) hS ?_
  simp only [Act.put, List.getElem_toArray, List.getElem_cons_zero, List.getElem_cons_succ, List.setIfInBounds_toArray, List.set_cons_succ, List.set_cons_zero]
  refine wpAnyH_take (i := 26) (v := .slice A2 n c2) rfl (by kernel_rfl) (by kernel_rfl) (by kernel_rfl) (fun _ _ _ h => h) (Or.inl ⟨by rfl, fun W _ => by go_simp; try with_reducible rfl⟩) hS ?_
  simp only [Act.put, List.getElem_toArray, List.getElem_cons_zero, List.getElem_cons_succ, List.setIfInBounds_toArray, List.set_cons_succ, List.set_cons_zero]
  refine wpAnyH_take (i := 27) (v := .agg (encK id).toArray) rfl (by kernel_rfl) (by kernel_rfl) (by kernel_rfl) (fun _ _ _ h => h) (tyKc.yieldsIf_load (by rfl) (.tmp 7) rfl w.heap.size 0 rfl id (fun _ h => RowC.of_blk (h.at (x := (w.heap.size, 24, (encK id).toArray)) (by simp)))) hS ?_
  simp only [Act.put, List.getElem_toArray, List.getElem_cons_zero, List.getElem_cons_succ, List.setIfInBounds_toArray, List.set_cons_succ, List.set_cons_zero]
  refine wpAnyH_take (i := 28) (v := .int .u64 lv) rfl (by kernel_rfl) (by kernel_rfl) (by kernel_rfl) (fun _ _ _ h => h) (Or.inl ⟨by rfl, fun W _ => by go_simp; try with_reducible rfl⟩) hS ?_
  simp only [Act.put, List.getElem_toArray, List.getElem_cons_zero, List.getElem_cons_succ, List.setIfInBounds_toArray, List.set_cons_succ, List.set_cons_zero]
  refine wpAnyH_take (i := 30) (v := .slice A l.length c) rfl (by kernel_rfl) (by kernel_rfl) (by kernel_rfl) (fun _ _ _ h => h) (Or.inl ⟨by rfl, fun W _ => by go_simp; try with_reducible rfl⟩) hS ?_
  simp only [Act.put, List.getElem_toArray, List.getElem_cons_zero, List.getElem_cons_succ, List.setIfInBounds_toArray, List.set_cons_succ, List.set_cons_zero]
  refine wpAnyH_take (i := 31) (v := .agg (encK id).toArray) rfl (by kernel_rfl) (by kernel_rfl) (by kernel_rfl) (fun _ _ _ h => h) (tyKc.yieldsIf_load (by rfl) (.tmp 7) rfl w.heap.size 0 rfl id (fun _ h => RowC.of_blk (h.at (x := (w.heap.size, 24, (encK id).toArray)) (by simp)))) hS ?_
  simp only [Act.put, List.getElem_toArray, List.getElem_cons_zero, List.getElem_cons_succ, List.setIfInBounds_toArray, List.set_cons_succ, List.set_cons_zero]
  refine wpAnyH_take (i := 32) (v := .int .u64 lv) rfl (by kernel_rfl) (by kernel_rfl) (by kernel_rfl) (fun _ _ _ h => h) (Or.inl ⟨by rfl, fun W _ => by go_simp; try with_reducible rfl⟩) hS ?_
  simp only [Act.put, List.getElem_toArray, List.getElem_cons_zero, List.getElem_cons_succ, List.setIfInBounds_toArray, List.set_cons_succ, List.set_cons_zero]
  refine wpAnyH_ready (rs := [29]) (by kernel_rfl) (by simp) ?_
  refine AllReadyH.cons rfl (fun Kq hK => ?_) AllReadyH.nil
  go_simp
  with_reducible refine (C5.out _ _ _ R2b.out).mono ?_
  rintro e y29 ⟨rfl, bq⟩
  have R32 := Lib.hid ((R3.out.below bq).more bq.size)
  clear R3
  have R3 := R32
  clear R32
  have R2b2 := Lib.hid ((R2b.out.below bq).more bq.size)
  clear R2b
  have R2b := R2b2
  clear R2b2
  refine hK.out _ _ (hS.call bq) (fun hS => ?_)
  clear hK Kq bq
  try simp only [Act.put, List.getElem_toArray, List.getElem_cons_zero, List.getElem_cons_succ, List.setIfInBounds_toArray, List.set_cons_succ, List.set_cons_zero]
  refine wpAnyH_ready (rs := [33]) (by kernel_rfl) (by simp) ?_
  refine AllReadyH.cons rfl (fun Kq hK => ?_) AllReadyH.nil
  go_simp
  with_reducible refine (C4.out _ (HLL.out _ hS.below)).mono ?_
  rintro e y33 ⟨rfl, bq⟩
  have R32 := Lib.hid ((R3.out.below bq).more bq.size)
  clear R3
  have R3 := R32
  clear R32
  have R2b2 := Lib.hid ((R2b.out.below bq).more bq.size)
  clear R2b
  have R2b := R2b2
  clear R2b2
  refine hK.out _ _ (hS.call bq) (fun hS => ?_)
  clear hK Kq bq
  try simp only [Act.put, List.getElem_toArray, List.getElem_cons_zero, List.getElem_cons_succ, List.setIfInBounds_toArray, List.set_cons_succ, List.set_cons_zero]
  refine wpAnyH_take (i := 34) (v := .bool true) rfl (by kernel_rfl) (by kernel_rfl) (by kernel_rfl) (fun _ _ _ h => h) (Or.inl ⟨by rfl, fun W _ => by go_simp; try with_reducible rfl⟩) hS ?_
  simp only [Act.put, List.getElem_toArray, List.getElem_cons_zero, List.getElem_cons_succ, List.setIfInBounds_toArray, List.set_cons_succ, List.set_cons_zero]
  refine wpAnyH_take (i := 35) (v := .bool true) rfl (by kernel_rfl) (by kernel_rfl) (by kernel_rfl) (fun _ _ _ h => h) (Or.inl ⟨by rfl, fun W _ => by go_simp; try with_reducible rfl⟩) hS ?_
  simp only [Act.put, List.getElem_toArray, List.getElem_cons_zero, List.getElem_cons_succ, List.setIfInBounds_toArray, List.set_cons_succ, List.set_cons_zero]
  refine wpAnyH_take (i := 36) (v := .bool true) rfl (by kernel_rfl) (by kernel_rfl) (by kernel_rfl) (fun _ _ _ h => h) (Or.inl ⟨by rfl, fun W _ => by go_simp; try with_reducible rfl⟩) hS ?_
  simp only [Act.put, List.getElem_toArray, List.getElem_cons_zero, List.getElem_cons_succ, List.setIfInBounds_toArray, List.set_cons_succ, List.set_cons_zero]
  refine wpAnyH_take (i := 37) (v := .slice A3 m c3) rfl (by kernel_rfl) (by kernel_rfl) (by kernel_rfl) (fun _ _ _ h => h) (Or.inl ⟨by rfl, fun W _ => by go_simp; try with_reducible rfl⟩) hS ?_
  simp only [Act.put, List.getElem_toArray, List.getElem_cons_zero, List.getElem_cons_succ, List.setIfInBounds_toArray, List.set_cons_succ, List.set_cons_zero]
  refine wpAnyH_take (i := 38) (v := .agg (encK id).toArray) rfl (by kernel_rfl) (by kernel_rfl) (by kernel_rfl) (fun _ _ _ h => h) (tyKc.yieldsIf_load (by rfl) (.tmp 7) rfl w.heap.size 0 rfl id (fun _ h => RowC.of_blk (h.at (x := (w.heap.size, 24, (encK id).toArray)) (by simp)))) hS ?_
  simp only [Act.put, List.getElem_toArray, List.getElem_cons_zero, List.getElem_cons_succ, List.setIfInBounds_toArray, List.set_cons_succ, List.set_cons_zero]
  refine wpAnyH_take (i := 39) (v := .int .u64 lv) rfl (by kernel_rfl) (by kernel_rfl) (by kernel_rfl) (fun _ _ _ h => h) (Or.inl ⟨by rfl, fun W _ => by go_simp; try with_reducible rfl⟩) hS ?_
  simp only [Act.put, List.getElem_toArray, List.getElem_cons_zero, List.getElem_cons_succ, List.setIfInBounds_toArray, List.set_cons_succ, List.set_cons_zero]
  refine wpAnyH_take (i := 41) (v := .slice A3 m c3) rfl (by kernel_rfl) (by kernel_rfl) (by kernel_rfl) (fun _ _ _ h => h) (Or.inl ⟨by rfl, fun W _ => by go_simp; try with_reducible rfl⟩) hS ?_
  simp only [Act.put, List.getElem_toArray, List.getElem_cons_zero, List.getElem_cons_succ, List.setIfInBounds_toArray, List.set_cons_succ, List.set_cons_zero]
  refine wpAnyH_take (i := 42) (v := .agg (encK id).toArray) rfl (by kernel_rfl) (by kernel_rfl) (by kernel_rfl) (fun _ _ _ h => h) (tyKc.yieldsIf_load (by rfl) (.tmp 7) rfl w.heap.size 0 rfl id (fun _ h => RowC.of_blk (h.at (x := (w.heap.size, 24, (encK id).toArray)) (by simp)))) hS ?_
  simp only [Act.put, List.getElem_toArray, List.getElem_cons_zero, List.getElem_cons_succ, List.setIfInBounds_toArray, List.set_cons_succ, List.set_cons_zero]
  refine wpAnyH_take (i := 43) (v := .int .u64 hv) rfl (by kernel_rfl) (by kernel_rfl) (by kernel_rfl) (fun _ _ _ h => h) (Or.inl ⟨by rfl, fun W _ => by go_simp; try with_reducible rfl⟩) hS ?_
  simp only [Act.put, List.getElem_toArray, List.getElem_cons_zero, List.getElem_cons_succ, List.setIfInBounds_toArray, List.set_cons_succ, List.set_cons_zero]
  refine wpAnyH_ready (rs := [40]) (by kernel_rfl) (by simp) ?_
  refine AllReadyH.cons rfl (fun Kq hK => ?_) AllReadyH.nil
  go_simp
  with_reducible refine (C6.out _ _ _ R3.out).mono ?_
  rintro e y40 ⟨rfl, bq⟩
  have R32 := Lib.hid ((R3.out.below bq).more bq.size)
  clear R3
  have R3 := R32
  clear R32
  have R2b2 := Lib.hid ((R2b.out.below bq).more bq.size)
  clear R2b
  have R2b := R2b2
  clear R2b2
  refine hK.out _ _ (hS.call bq) (fun hS => ?_)
  clear hK Kq bq
  try simp only [Act.put, List.getElem_toArray, List.getElem_cons_zero, List.getElem_cons_succ, List.setIfInBounds_toArray, List.set_cons_succ, List.set_cons_zero]
  refine wpAnyH_ready (rs := [44]) (by kernel_rfl) (by simp) ?_
  refine AllReadyH.cons rfl (fun Kq hK => ?_) AllReadyH.nil
  go_simp
  with_reducible refine (C7.out _ _ _ R3.out).mono ?_
  rintro e y44 ⟨rfl, bq⟩
  have R32 := Lib.hid ((R3.out.below bq).more bq.size)
  clear R3
  have R3 := R32
  clear R32
  have R2b2 := Lib.hid ((R2b.out.below bq).more bq.size)
  clear R2b
  have R2b := R2b2
  clear R2b2
  refine hK.out _ _ (hS.call bq) (fun hS => ?_)
  clear hK Kq bq
  try simp only [Act.put, List.getElem_toArray, List.getElem_cons_zero, List.getElem_cons_succ, List.setIfInBounds_toArray, List.set_cons_succ, List.set_cons_zero]
  refine wpAnyH_take (i := 45) (v := .bool true) rfl (by kernel_rfl) (by kernel_rfl) (by kernel_rfl) (fun _ _ _ h => h) (Or.inl ⟨by rfl, fun W _ => by go_simp; try with_reducible rfl⟩) hS ?_
  simp only [Act.put, List.getElem_toArray, List.getElem_cons_zero, List.getElem_cons_succ, List.setIfInBounds_toArray, List.set_cons_succ, List.set_cons_zero]
  refine wpAnyH_take (i := 46) (v := .bool true) rfl (by kernel_rfl) (by kernel_rfl) (by kernel_rfl) (fun _ _ _ h => h) (Or.inl ⟨by rfl, fun W _ => by go_simp; try with_reducible rfl⟩) hS ?_
  simp only [Act.put, List.getElem_toArray, List.getElem_cons_zero, List.getElem_cons_succ, List.setIfInBounds_toArray, List.set_cons_succ, List.set_cons_zero]
  refine wpAnyH_take (i := 47) (v := .bool true) rfl (by kernel_rfl) (by kernel_rfl) (by kernel_rfl) (fun _ _ _ h => h) (Or.inl ⟨by rfl, fun W _ => by go_simp; try with_reducible rfl⟩) hS ?_
  simp only [Act.put, List.getElem_toArray, List.getElem_cons_zero, List.getElem_cons_succ, List.setIfInBounds_toArray, List.set_cons_succ, List.set_cons_zero]
  refine wpAnyH_take (i := 48) (v := .slice A2 n c2) rfl (by kernel_rfl) (by kernel_rfl) (by kernel_rfl) (fun _ _ _ h => h) (Or.inl ⟨by rfl, fun W _ => by go_simp; try with_reducible rfl⟩) hS ?_
  simp only [Act.put, List.getElem_toArray, List.getElem_cons_zero, List.getElem_cons_succ, List.setIfInBounds_toArray, List.set_cons_succ, List.set_cons_zero]
  refine wpAnyH_take (i := 49) (v := .int .u64 hv) rfl (by kernel_rfl) (by kernel_rfl) (by kernel_rfl) (fun _ _ _ h => h) (Or.inl ⟨by rfl, fun W _ => by go_simp; try with_reducible rfl⟩) hS ?_
  simp only [Act.put, List.getElem_toArray, List.getElem_cons_zero, List.getElem_cons_succ, List.setIfInBounds_toArray, List.set_cons_succ, List.set_cons_zero]
  refine wpAnyH_take (i := 52) (v := .slice A3 m c3) rfl (by kernel_rfl) (by kernel_rfl) (by kernel_rfl) (fun _ _ _ h => h) (Or.inl ⟨by rfl, fun W _ => by go_simp; try with_reducible rfl⟩) hS ?_
  simp only [Act.put, List.getElem_toArray, List.getElem_cons_zero, List.getElem_cons_succ, List.setIfInBounds_toArray, List.set_cons_succ, List.set_cons_zero]
  refine wpAnyH_take (i := 53) (v := .int .i64 (m : Int)) rfl (by kernel_rfl) (by kernel_rfl) (by kernel_rfl) (fun _ _ _ h => h) (Or.inl ⟨by rfl, fun W _ => by go_simp; try with_reducible rfl⟩) hS ?_
  simp only [Act.put, List.getElem_toArray, List.getElem_cons_zero, List.getElem_cons_succ, List.setIfInBounds_toArray, List.set_cons_succ, List.set_cons_zero]
  refine wpAnyH_ready (rs := [50]) (by kernel_rfl) (by simp) ?_
  refine AllReadyH.cons rfl (fun Kq hK => ?_) AllReadyH.nil
  go_simp
  with_reducible refine (C8.out _ _ _ R2b.out).mono ?_
  rintro e y50 ⟨A9, c9, rfl, bq⟩
  refine hK.out _ _ (hS.call bq) (fun hS => ?_)
  clear hK Kq bq
  try simp only [Act.put, List.getElem_toArray, List.getElem_cons_zero, List.getElem_cons_succ, List.setIfInBounds_toArray, List.set_cons_succ, List.set_cons_zero]
  refine wpAnyH_take (i := 51) (v := .int .i64 (m : Int)) rfl (by kernel_rfl) (by kernel_rfl) (by kernel_rfl) (fun _ _ _ h => h) (Or.inl ⟨by rfl, fun W _ => by go_simp; try with_reducible rfl⟩) hS ?_
  simp only [Act.put, List.getElem_toArray, List.getElem_cons_zero, List.getElem_cons_succ, List.setIfInBounds_toArray, List.set_cons_succ, List.set_cons_zero]
  refine wpAnyH_take (i := 54) (v := .bool true) rfl (by kernel_rfl) (by kernel_rfl) (by kernel_rfl) (fun _ _ _ h => h) (Or.inl ⟨by rfl, fun W _ => by go_simp; try with_reducible rfl⟩) hS ?_
  simp only [Act.put, List.getElem_toArray, List.getElem_cons_zero, List.getElem_cons_succ, List.setIfInBounds_toArray, List.set_cons_succ, List.set_cons_zero]
  refine wpAnyH_take (i := 55) (v := .bool true) rfl (by kernel_rfl) (by kernel_rfl) (by kernel_rfl) (fun _ _ _ h => h) (Or.inl ⟨by rfl, fun W _ => by go_simp; try with_reducible rfl⟩) hS ?_
  simp only [Act.put, List.getElem_toArray, List.getElem_cons_zero, List.getElem_cons_succ, List.setIfInBounds_toArray, List.set_cons_succ, List.set_cons_zero]
  refine wpAnyH_ready (rs := [56]) (by kernel_rfl) (by simp) ?_
  refine AllReadyH.cons rfl (fun Kq hK => ?_) AllReadyH.nil
  go_simp
  refine hK.out _ _ hS (fun hS => ?_)
  clear hK Kq
  refine wpAnyH_done (by kernel_rfl) ?_ _
  have B9 := Lib.hid hS.below
  clear hS
  go_wp2_with fail
  go_ret
  exact ⟨by first | rfl | simp, B9.out⟩
set_option maxRecDepth 20000 in
set_option maxHeartbeats 8000000 in
theorem rcOver_walk (HPU : RPutOk) (HHA : RHasOk) (HOL : ROldOk) (A : Option Addr) (c : Nat) (l : List ItV) (a b : IntV .u64) (id : K32) (w : World) (hl : RowIn (encKI .u64) 33 w w.heap.size A c l) :
    Calls Try.prog 6 #[.slice A l.length c, .int .u64 a.1, .int .u64 b.1, .agg (encK id).toArray] w fun e w' => e = .returned (.bool true) ∧ Below w.heap.size w w' := by
  by_cases h : 200 < l.length
  · exact rcOver_h HPU HHA A c l a b id w h
  · cases hb : hasI l id (max a.1 b.1) with
    | true => exact rcOver_t HPU HHA HOL A c l a b id w hl (by omega) hb
    | false => exact rcOver_f HPU HHA HOL A c l a b id w hl (by omega) hb
end Go.Proofs.Ytiboelfakajohaa
