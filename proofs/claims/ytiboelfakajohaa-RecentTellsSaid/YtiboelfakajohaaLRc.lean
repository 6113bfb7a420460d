/- The walks of layer 18's laws; the law's shown. Written by genRcC.py. -/
import Derived.Test.YtiboelfakajohaaRcB
namespace Go.Proofs.Ytiboelfakajohaa
open Go.RowKit
def RPutOk : Prop := ∀ (A : Option Addr) (c : Nat) (l : List ItV) (id : K32) (now : IntV .u64) (w : World), RowIn (encKI .u64) 33 w w.heap.size A c l → l.length ≤ 300 → Calls Try.prog 10 #[.slice A l.length c, .agg (encK id).toArray, .int .u64 now.1] w fun e w' => ∃ A' c', e = .returned (.slice A' (putI l id now).length c') ∧ RowIn (encKI .u64) 33 w' w'.heap.size A' c' (putI l id now) ∧ Below w.heap.size w w'
def RHasOk : Prop := ∀ (A : Option Addr) (c : Nat) (l : List ItV) (id : K32) (now : IntV .u64) (w : World), RowIn (encKI .u64) 33 w w.heap.size A c l → l.length ≤ 300 → Calls Try.prog 12 #[.slice A l.length c, .agg (encK id).toArray, .int .u64 now.1] w fun e w' => e = .returned (.bool (hasI l id now.1)) ∧ Below w.heap.size w w'
def ROldOk : Prop := ∀ (A : Option Addr) (c : Nat) (l : List ItV) (now : IntV .u64) (w : World), RowIn (encKI .u64) 33 w w.heap.size A c l → l.length ≤ 300 → Calls Try.prog 14 #[.slice A l.length c, .int .u64 now.1] w fun e w' => ∃ A' c', e = .returned (.slice A' (oldI l now.1).length c') ∧ RowIn (encKI .u64) 33 w' w'.heap.size A' c' (oldI l now.1) ∧ Below w.heap.size w w'
def rk1 : K32 := ⟨1 :: List.replicate 31 0, by simp⟩
def r3 : IntV .u64 := ⟨3, by decide⟩
def r62 : IntV .u64 := ⟨62, by decide⟩
def r63 : IntV .u64 := ⟨63, by decide⟩
theorem rk_put : putI [] rk1 r3 = [(rk1, r3)] := by decide +kernel
theorem rk_62 : hasI [(rk1, r3)] rk1 62 = true := by decide +kernel
theorem rk_63 : hasI [(rk1, r3)] rk1 63 = false := by decide +kernel
theorem young_less {x : ItV} {lo hi : Int} (h : lo ≤ hi) (hy : youngF x hi = true) : youngF x lo = true := by
  unfold youngF at hy ⊢
  simp only [Bool.or_eq_true, decide_eq_true_eq] at hy ⊢
  omega
theorem old_old {l : List ItV} {lo hi : Int} (h : lo ≤ hi) : oldI (oldI l lo) hi = oldI l hi := by
  unfold oldI
  rw [List.filter_filter]
  congr 1
  funext x
  cases hy : youngF x hi with
  | false => simp
  | true => simp [young_less h hy]
theorem old_len (l : List ItV) (n : Int) : (oldI l n).length ≤ l.length := List.length_filter_le _ _
theorem old_less {l : List ItV} {lo hi : Int} (h : lo ≤ hi) : (oldI l hi).length ≤ (oldI l lo).length := by
  rw [← old_old h]
  exact old_len _ _
theorem has_less {l : List ItV} {id : K32} {lo hi : Int} (h : lo ≤ hi) (hy : hasI l id hi = true) : hasI l id lo = true := by
  unfold hasI at hy ⊢
  rw [List.any_eq_true] at hy ⊢
  obtain ⟨x, h1, h2⟩ := hy
  rw [Bool.and_eq_true] at h2
  exact ⟨x, h1, by rw [Bool.and_eq_true]; exact ⟨h2.1, young_less h h2.2⟩⟩
theorem has_old {l : List ItV} {id : K32} {n : Int} : hasI (oldI l n) id n = hasI l id n := by
  unfold hasI oldI
  rw [List.any_filter]
  congr 1
  funext x
  cases decide (x.1 = id) <;> cases youngF x n <;> rfl
theorem has_both {l : List ItV} {id : K32} {lo hi : Int} (h : lo ≤ hi) : hasI (oldI l hi) id lo = hasI (oldI l hi) id hi := by
  unfold hasI oldI
  rw [List.any_filter, List.any_filter]
  congr 1
  funext x
  cases hy : youngF x hi with
  | false => simp
  | true => rw [young_less h hy]
/-- what was put is the last one, and there is no other one of it -/
theorem put_form (l : List ItV) (id : K32) (now : IntV .u64) : ∃ Y : List ItV, putI l id now = Y ++ [(id, now)] ∧ ∀ x ∈ Y, x.1 ≠ id := by
  unfold putI addI
  generalize hF : (l.filter fun x => !(decide (x.1 = id))) = F
  refine ⟨F.drop ((F ++ [(id, now)]).length - 5), ?_, fun x hx => ?_⟩
  · rw [List.drop_append_of_le_length (by rw [List.length_append, List.length_singleton]; omega)]
  · have h1 := List.mem_of_mem_drop hx
    rw [← hF, List.mem_filter] at h1
    simpa using h1.2
theorem young_self (id : K32) (b : IntV .u64) : youngF (id, b) b.1 = true := by
  unfold youngF
  simp only [Bool.or_eq_true, decide_eq_true_eq]
  omega
theorem put_has (l : List ItV) (id : K32) (b : IntV .u64) : hasI (putI l id b) id b.1 = true := by
  obtain ⟨Y, hY, _⟩ := put_form l id b
  rw [hY]
  unfold hasI
  rw [List.any_append, List.any_cons, young_self]
  simp
/-- how many of the first ones have this name -/
def cntI (l : List ItV) (id : K32) (j : Nat) : Nat := ((l.take j).filter fun x => decide (x.1 = id)).length
theorem cntI_next (l : List ItV) (id : K32) (j : Nat) (hj : j < l.length) : cntI l id (j + 1) = cntI l id j + (if decide (l[j].1 = id) = true then 1 else 0) := by
  unfold cntI
  rw [filter_next _ l j hj, List.length_append]
  by_cases h : decide (l[j].1 = id) = true
  · rw [if_pos h, if_pos h]; rfl
  · rw [if_neg h, if_neg h]; rfl
theorem cntI_le (l : List ItV) (id : K32) (j : Nat) : cntI l id j ≤ j := by
  unfold cntI
  refine Nat.le_trans (List.length_filter_le _ _) ?_
  rw [List.length_take]
  omega
theorem put_once (l : List ItV) (id : K32) (b : IntV .u64) : cntI (putI l id b) id (putI l id b).length = 1 := by
  obtain ⟨Y, hY, hn⟩ := put_form l id b
  unfold cntI
  rw [List.take_length, hY, List.filter_append, List.length_append]
  have h1 : (Y.filter fun x => decide (x.1 = id)) = [] := List.filter_eq_nil_iff.2 fun x hx => by simpa using hn x hx
  rw [h1]
  simp
theorem put_last (l : List ItV) (id : K32) (b : IntV .u64) : ∃ h : (putI l id b).length - 1 < (putI l id b).length, (putI l id b)[(putI l id b).length - 1]'h = (id, b) := by
  obtain ⟨Y, hY, _⟩ := put_form l id b
  refine ⟨by rw [hY]; simp, ?_⟩
  simp only [hY]
  simp
set_option maxRecDepth 20000 in
set_option maxHeartbeats 8000000 in
theorem ishown_any (HPU : RPutOk) (HHA : RHasOk) (w : World) : Calls Try.prog 7 #[] w fun e w' => e = .returned (.bool true) ∧ Below w.heap.size w w' := by
  have H0 := Lib.hid (fun W => rk_put ▸ HPU none 0 [] rk1 r3 W (RowIn.nil (Nat.zero_le _)) (by decide))
  have H1 := Lib.hid (fun A c W (h : RowIn (encKI .u64) 33 W W.heap.size A c [(rk1, r3)]) => (show hasI [(rk1, r3)] rk1 r62.1 = true from rk_62) ▸ HHA A c [(rk1, r3)] rk1 r62 W h (by decide))
  have H2 := Lib.hid (fun A c W (h : RowIn (encKI .u64) 33 W W.heap.size A c [(rk1, r3)]) => (show hasI [(rk1, r3)] rk1 r63.1 = false from rk_63) ▸ HHA A c [(rk1, r3)] rk1 r63 W h (by decide))
  clear HPU HHA
  go_enter Try.func7, Try.ntmps7
  go_wp2_with ((with_reducible refine at_build 2 ?_); try refine wpList_unguard (by rfl) ?_; refine wpList_built rfl 24 #[(0, .const (.int .u8 1))] rfl (encK rk1).toArray (by kernel_rfl) ?_)
  refine (H0.out _).mono ?_
  rintro e w1 ⟨A1, c1, rfl, r1, b1⟩
  have R1 := Lib.hid r1
  have B1 := Lib.hid b1
  clear r1 b1
  go_wp2_with (first
    | ((with_reducible refine at_build 5 ?_); try refine wpList_unguard (by rfl) ?_; refine wpList_built rfl 24 #[(0, .const (.int .u8 1))] rfl (encK rk1).toArray (by kernel_rfl) ?_)
    | ((with_reducible refine at_build 9 ?_); try refine wpList_unguard (by rfl) ?_; refine wpList_built rfl 24 #[(0, .const (.int .u8 1))] rfl (encK rk1).toArray (by kernel_rfl) ?_))
  refine (H1.out A1 c1 w1 R1.out).mono ?_
  rintro e w2 ⟨rfl, b2⟩
  have B2 := Lib.hid (B1.out.trans (b2.mono B1.out.size))
  have R2 := Lib.hid ((R1.out.below b2).more b2.size)
  clear b2 R1
  go_wp2_with ((with_reducible refine at_build 9 ?_); try refine wpList_unguard (by rfl) ?_; refine wpList_built rfl 24 #[(0, .const (.int .u8 1))] rfl (encK rk1).toArray (by kernel_rfl) ?_)
  refine (H2.out A1 c1 w2 R2.out).mono ?_
  rintro e w3 ⟨rfl, b3⟩
  have B3 := Lib.hid (B2.out.trans (b3.mono B2.out.size))
  clear b3
  go_wp2_with fail
  go_ret
  exact ⟨rfl, B3.out⟩
set_option maxRecDepth 20000 in
set_option maxHeartbeats 8000000 in
theorem rcTells_h (HPU : RPutOk) (HHA : RHasOk) (A : Option Addr) (c : Nat) (l : List ItV) (id : K32) (now : IntV .u64) (w : World) (hn : 200 < l.length) :
    Calls Try.prog 3 #[.slice A l.length c, .agg (encK id).toArray, .int .u64 now.1] w fun e w' => e = .returned (.bool true) ∧ Below w.heap.size w w' := by
  have SH := Lib.hid (fun W => ishown_any HPU HHA W)
  have H0 := Lib.hid (show Holds w [(w.heap.size, 24, (encK id).toArray)] (w.alloc (.cells (encK id).toArray 24)) from (Holds.nil w).box 24 (encK id).toArray)
  have hd : decide ((200 : Int) < (l.length : Int)) = true := by simp; omega
  clear HPU HHA hn
  go_enter Try.func3, Try.ntmps3
  go_wp2_with fail
  refine (SH.out _).mono ?_
  rintro e w1 ⟨rfl, b1⟩
  have H1 := Lib.hid (H0.out.call b1)
  clear b1
  go_wp2_with fail
  go_ret
  exact ⟨rfl, H1.out.below⟩
set_option maxRecDepth 20000 in
set_option maxHeartbeats 8000000 in
theorem rcTells_m (HPU : RPutOk) (HHA : RHasOk) (HOL : ROldOk) (A : Option Addr) (c : Nat) (l : List ItV) (id : K32) (now : IntV .u64) (w : World) (hl : RowIn (encKI .u64) 33 w w.heap.size A c l) (hn : l.length ≤ 200) :
    Calls Try.prog 3 #[.slice A l.length c, .agg (encK id).toArray, .int .u64 now.1] w fun e w' => e = .returned (.bool true) ∧ Below w.heap.size w w' := by
  have SH := Lib.hid (fun W => ishown_any HPU HHA W)
  have H0 := Lib.hid (show Holds w [(w.heap.size, 24, (encK id).toArray)] (w.alloc (.cells (encK id).toArray 24)) from (Holds.nil w).box 24 (encK id).toArray)
  have hd : decide ((200 : Int) < (l.length : Int)) = false := by simp; omega
  obtain ⟨r, hr⟩ : ∃ r, hasI l id now.1 = r := ⟨_, rfl⟩
  obtain ⟨P, hP⟩ : ∃ P, putI l id now = P := ⟨_, rfl⟩
  obtain ⟨O, hO⟩ : ∃ O, oldI l now.1 = O := ⟨_, rfl⟩
  have HPL := Lib.hid (show P.length ≤ 5 from hP ▸ putI_len l id now)
  have HOLL := Lib.hid (show O.length ≤ 200 from hO ▸ Nat.le_trans (old_len l now.1) hn)
  have C1 := Lib.hid (fun W (h : RowIn (encKI .u64) 33 W W.heap.size A c l) => hP ▸ HPU A c l id now W h (by omega))
  have C2 := Lib.hid (fun A' c' W (h : RowIn (encKI .u64) 33 W W.heap.size A' c' l) => hP ▸ rPut_w A' c' l id now W h (by omega))
  have C3 := Lib.hid (fun W (h : RowIn (encKI .u64) 33 W W.heap.size A c l) => hr ▸ HHA A c l id now W h (by omega))
  have C4 := Lib.hid (fun A' c' W (h : RowIn (encKI .u64) 33 W W.heap.size A' c' l) => hr ▸ rHas_w A' c' l id now W h (by omega))
  have C5 := Lib.hid (fun W (h : RowIn (encKI .u64) 33 W W.heap.size A c l) => hO ▸ HOL A c l now W h (by omega))
  have C6 := Lib.hid (fun A' c' W (h : RowIn (encKI .u64) 33 W W.heap.size A' c' l) => hO ▸ rOld_w A' c' l now W h (by omega))
  have HLL := Lib.hid (show ∀ W, Below w.heap.size w W → RowIn (encKI .u64) 33 W W.heap.size A c l from fun W h => (hl.below h).more h.size)
  have HN := Lib.hid hn
  clear HPU HHA HOL hl hn hr hP hO
  go_enter Try.func3, Try.ntmps3
  go_wp2_with fail
  refine (SH.out _).mono ?_
  rintro e w1 ⟨rfl, b1⟩
  have H1 := Lib.hid (H0.out.call b1)
  clear b1 H0
  go_wp2_with fail
  refine wp_region_held_drew (S := Holds w [(w.heap.size, 24, (encK id).toArray)]) (by kernel_rfl) (H1.out.call (Below.refl _ _).drew) ?_
  intro hS
  refine wpAnyH_take (i := 0) (v := .slice A l.length c) rfl (by kernel_rfl) (by kernel_rfl) (by kernel_rfl) (fun _ _ _ h => h) (Or.inl ⟨by rfl, fun W _ => by go_simp; try with_reducible rfl⟩) hS ?_
  simp only [Act.put, List.getElem_toArray, List.getElem_cons_zero, List.setIfInBounds_toArray, List.set_cons_succ, List.set_cons_zero]
  refine wpAnyH_take (i := 1) (v := .agg (encK id).toArray) rfl (by kernel_rfl) (by kernel_rfl) (by kernel_rfl) (fun _ _ _ h => h) (tyKc.yieldsIf_load (by rfl) (.tmp 4) rfl w.heap.size 0 rfl id (fun _ h => RowC.of_blk (h.at (x := (w.heap.size, 24, (encK id).toArray)) (by simp)))) hS ?_
  simp only [Act.put, List.getElem_toArray, List.getElem_cons_zero, List.getElem_cons_succ, List.setIfInBounds_toArray, List.set_cons_succ, List.set_cons_zero]
  refine wpAnyH_take (i := 2) (v := .int .u64 now.1) rfl (by kernel_rfl) (by kernel_rfl) (by kernel_rfl) (fun _ _ _ h => h) (Or.inl ⟨by rfl, fun W _ => by go_simp; try with_reducible rfl⟩) hS ?_
  simp only [Act.put, List.getElem_toArray, List.getElem_cons_zero, List.getElem_cons_succ, List.setIfInBounds_toArray, List.set_cons_succ, List.set_cons_zero]
  refine wpAnyH_take (i := 5) (v := .slice A l.length c) rfl (by kernel_rfl) (by kernel_rfl) (by kernel_rfl) (fun _ _ _ h => h) (Or.inl ⟨by rfl, fun W _ => by go_simp; try with_reducible rfl⟩) hS ?_
  simp only [Act.put, List.getElem_toArray, List.getElem_cons_zero, List.getElem_cons_succ, List.setIfInBounds_toArray, List.set_cons_succ, List.set_cons_zero]
  refine wpAnyH_take (i := 7) (v := .agg (encK id).toArray) rfl (by kernel_rfl) (by kernel_rfl) (by kernel_rfl) (fun _ _ _ h => h) (tyKc.yieldsIf_load (by rfl) (.tmp 4) rfl w.heap.size 0 rfl id (fun _ h => RowC.of_blk (h.at (x := (w.heap.size, 24, (encK id).toArray)) (by simp)))) hS ?_
  simp only [Act.put, List.getElem_toArray, List.getElem_cons_zero, List.getElem_cons_succ, List.setIfInBounds_toArray, List.set_cons_succ, List.set_cons_zero]
  refine wpAnyH_take (i := 8) (v := .int .u64 now.1) rfl (by kernel_rfl) (by kernel_rfl) (by kernel_rfl) (fun _ _ _ h => h) (Or.inl ⟨by rfl, fun W _ => by go_simp; try with_reducible rfl⟩) hS ?_
  simp only [Act.put, List.getElem_toArray, List.getElem_cons_zero, List.getElem_cons_succ, List.setIfInBounds_toArray, List.set_cons_succ, List.set_cons_zero]
  refine wpAnyH_ready (rs := [3]) (by kernel_rfl) (by simp) ?_
  refine AllReadyH.cons rfl (fun Kq hK => ?_) AllReadyH.nil
  go_simp
  with_reducible refine (C1.out _ (HLL.out _ hS.below)).mono ?_
  rintro e y3 ⟨A3, c3, rfl, rq, bq⟩
  have R3 := Lib.hid rq
  clear rq
  refine hK.out _ _ (hS.call bq) (fun hS => ?_)
  clear hK Kq bq
  try simp only [Act.put, List.getElem_toArray, List.getElem_cons_zero, List.getElem_cons_succ, List.setIfInBounds_toArray, List.set_cons_succ, List.set_cons_zero]
  refine wpAnyH_ready (rs := [4]) (by kernel_rfl) (by simp) ?_
  refine AllReadyH.cons rfl (fun Kq hK => ?_) AllReadyH.nil
  go_simp
  with_reducible refine (itheirs_w A3 c3 P _ R3.out (by have := HPL.out; omega)).mono ?_
  rintro e y4 ⟨A4, c4, rfl, rq, bq⟩
  have R4 := Lib.hid rq
  clear rq R3
  refine hK.out _ _ (hS.call bq) (fun hS => ?_)
  clear hK Kq bq
  try simp only [Act.put, List.getElem_toArray, List.getElem_cons_zero, List.getElem_cons_succ, List.setIfInBounds_toArray, List.set_cons_succ, List.set_cons_zero]
  refine wpAnyH_ready (rs := [6]) (by kernel_rfl) (by simp) ?_
  refine AllReadyH.cons rfl (fun Kq hK => ?_) AllReadyH.nil
  go_simp
  with_reducible refine (itheirs_w A c l _ (HLL.out _ hS.below) (by have := HN.out; omega)).mono ?_
  rintro e y6 ⟨A5, c5, rfl, rq, bq⟩
  have R5 := Lib.hid rq
  clear rq
  have R42 := Lib.hid ((R4.out.below bq).more bq.size)
  clear R4
  have R4 := R42
  clear R42
  refine hK.out _ _ (hS.call bq) (fun hS => ?_)
  clear hK Kq bq
  try simp only [Act.put, List.getElem_toArray, List.getElem_cons_zero, List.getElem_cons_succ, List.setIfInBounds_toArray, List.set_cons_succ, List.set_cons_zero]
  refine wpAnyH_ready (rs := [9]) (by kernel_rfl) (by simp) ?_
  refine AllReadyH.cons rfl (fun Kq hK => ?_) AllReadyH.nil
  go_simp
  with_reducible refine (C2.out _ _ _ R5.out).mono ?_
  rintro e y9 ⟨A6, c6, rfl, rq, bq⟩
  have R6 := Lib.hid rq
  clear rq R5
  have R42 := Lib.hid ((R4.out.below bq).more bq.size)
  clear R4
  have R4 := R42
  clear R42
  refine hK.out _ _ (hS.call bq) (fun hS => ?_)
  clear hK Kq bq
  try simp only [Act.put, List.getElem_toArray, List.getElem_cons_zero, List.getElem_cons_succ, List.setIfInBounds_toArray, List.set_cons_succ, List.set_cons_zero]
  refine wpAnyH_ready (rs := [10]) (by kernel_rfl) (by simp) ?_
  refine AllReadyH.cons rfl (fun Kq hK => ?_) AllReadyH.nil
  go_simp
  with_reducible refine (rSameI_w A4 A6 c4 c6 P _ R4.out R6.out (by have := HPL.out; omega)).mono ?_
  rintro e y10 ⟨rfl, bq⟩
  clear R4 R6
  refine hK.out _ _ (hS.call bq) (fun hS => ?_)
  clear hK Kq bq
  try simp only [Act.put, List.getElem_toArray, List.getElem_cons_zero, List.getElem_cons_succ, List.setIfInBounds_toArray, List.set_cons_succ, List.set_cons_zero]
  refine wpAnyH_take (i := 11) (v := .bool true) rfl (by kernel_rfl) (by kernel_rfl) (by kernel_rfl) (fun _ _ _ h => h) (Or.inl ⟨by rfl, fun W _ => by go_simp; try with_reducible rfl⟩) hS ?_
  simp only [Act.put, List.getElem_toArray, List.getElem_cons_zero, List.getElem_cons_succ, List.setIfInBounds_toArray, List.set_cons_succ, List.set_cons_zero]
  refine wpAnyH_take (i := 12) (v := .slice A l.length c) rfl (by kernel_rfl) (by kernel_rfl) (by kernel_rfl) (fun _ _ _ h => h) (Or.inl ⟨by rfl, fun W _ => by go_simp; try with_reducible rfl⟩) hS ?_
  simp only [Act.put, List.getElem_toArray, List.getElem_cons_zero, List.getElem_cons_succ, List.setIfInBounds_toArray, List.set_cons_succ, List.set_cons_zero]
  refine wpAnyH_take (i := 13) (v := .agg (encK id).toArray) rfl (by kernel_rfl) (by kernel_rfl) (by kernel_rfl) (fun _ _ _ h => h) (tyKc.yieldsIf_load (by rfl) (.tmp 4) rfl w.heap.size 0 rfl id (fun _ h => RowC.of_blk (h.at (x := (w.heap.size, 24, (encK id).toArray)) (by simp)))) hS ?_
  simp only [Act.put, List.getElem_toArray, List.getElem_cons_zero, List.getElem_cons_succ, List.setIfInBounds_toArray, List.set_cons_succ, List.set_cons_zero]
  refine wpAnyH_take (i := 14) (v := .int .u64 now.1) rfl (by kernel_rfl) (by kernel_rfl) (by kernel_rfl) (fun _ _ _ h => h) (Or.inl ⟨by rfl, fun W _ => by go_simp; try with_reducible rfl⟩) hS ?_
  simp only [Act.put, List.getElem_toArray, List.getElem_cons_zero, List.getElem_cons_succ, List.setIfInBounds_toArray, List.set_cons_succ, List.set_cons_zero]
  refine wpAnyH_take (i := 16) (v := .slice A l.length c) rfl (by kernel_rfl) (by kernel_rfl) (by kernel_rfl) (fun _ _ _ h => h) (Or.inl ⟨by rfl, fun W _ => by go_simp; try with_reducible rfl⟩) hS ?_
  simp only [Act.put, List.getElem_toArray, List.getElem_cons_zero, List.getElem_cons_succ, List.setIfInBounds_toArray, List.set_cons_succ, List.set_cons_zero]
  refine wpAnyH_take (i := 18) (v := .agg (encK id).toArray) rfl (by kernel_rfl) (by kernel_rfl) (by kernel_rfl) (fun _ _ _ h => h) (tyKc.yieldsIf_load (by rfl) (.tmp 4) rfl w.heap.size 0 rfl id (fun _ h => RowC.of_blk (h.at (x := (w.heap.size, 24, (encK id).toArray)) (by simp)))) hS ?_
  simp only [Act.put, List.getElem_toArray, List.getElem_cons_zero, List.getElem_cons_succ, List.setIfInBounds_toArray, List.set_cons_succ, List.set_cons_zero]
  refine wpAnyH_take (i := 19) (v := .int .u64 now.1) rfl (by kernel_rfl) (by kernel_rfl) (by kernel_rfl) (fun _ _ _ h => h) (Or.inl ⟨by rfl, fun W _ => by go_simp; try with_reducible rfl⟩) hS ?_
  simp only [Act.put, List.getElem_toArray, List.getElem_cons_zero, List.getElem_cons_succ, List.setIfInBounds_toArray, List.set_cons_succ, List.set_cons_zero]
  refine wpAnyH_ready (rs := [15]) (by kernel_rfl) (by simp) ?_
  refine AllReadyH.cons rfl (fun Kq hK => ?_) AllReadyH.nil
  go_simp
  with_reducible refine (C3.out _ (HLL.out _ hS.below)).mono ?_
  rintro e y15 ⟨rfl, bq⟩
  refine hK.out _ _ (hS.call bq) (fun hS => ?_)
  clear hK Kq bq
  try simp only [Act.put, List.getElem_toArray, List.getElem_cons_zero, List.getElem_cons_succ, List.setIfInBounds_toArray, List.set_cons_succ, List.set_cons_zero]
  refine wpAnyH_ready (rs := [17]) (by kernel_rfl) (by simp) ?_
  refine AllReadyH.cons rfl (fun Kq hK => ?_) AllReadyH.nil
  go_simp
  with_reducible refine (itheirs_w A c l _ (HLL.out _ hS.below) (by have := HN.out; omega)).mono ?_
  rintro e y17 ⟨A7, c7, rfl, rq, bq⟩
  have R7 := Lib.hid rq
  clear rq
  refine hK.out _ _ (hS.call bq) (fun hS => ?_)
  clear hK Kq bq
  try simp only [Act.put, List.getElem_toArray, List.getElem_cons_zero, List.getElem_cons_succ, List.setIfInBounds_toArray, List.set_cons_succ, List.set_cons_zero]
  refine wpAnyH_ready (rs := [20]) (by kernel_rfl) (by simp) ?_
  refine AllReadyH.cons rfl (fun Kq hK => ?_) AllReadyH.nil
  go_simp
  with_reducible refine (C4.out _ _ _ R7.out).mono ?_
  rintro e y20 ⟨rfl, bq⟩
  clear R7
  refine hK.out _ _ (hS.call bq) (fun hS => ?_)
  clear hK Kq bq
  try simp only [Act.put, List.getElem_toArray, List.getElem_cons_zero, List.getElem_cons_succ, List.setIfInBounds_toArray, List.set_cons_succ, List.set_cons_zero]
  refine wpAnyH_take (i := 21) (v := .bool true) rfl (by kernel_rfl) (by kernel_rfl) (by kernel_rfl) (fun _ _ _ h => h) (Or.inl ⟨by rfl, fun W _ => by go_simp; try with_reducible rfl⟩) hS ?_
  simp only [Act.put, List.getElem_toArray, List.getElem_cons_zero, List.getElem_cons_succ, List.setIfInBounds_toArray, List.set_cons_succ, List.set_cons_zero]
  refine wpAnyH_take (i := 22) (v := .bool true) rfl (by kernel_rfl) (by kernel_rfl) (by kernel_rfl) (fun _ _ _ h => h) (Or.inl ⟨by rfl, fun W _ => by go_simp; try with_reducible rfl⟩) hS ?_
  simp only [Act.put, List.getElem_toArray, List.getElem_cons_zero, List.getElem_cons_succ, List.setIfInBounds_toArray, List.set_cons_succ, List.set_cons_zero]
  refine wpAnyH_take (i := 23) (v := .bool true) rfl (by kernel_rfl) (by kernel_rfl) (by kernel_rfl) (fun _ _ _ h => h) (Or.inl ⟨by rfl, fun W _ => by go_simp; try with_reducible rfl⟩) hS ?_
  simp only [Act.put, List.getElem_toArray, List.getElem_cons_zero, List.getElem_cons_succ, List.setIfInBounds_toArray, List.set_cons_succ, List.set_cons_zero]
  refine wpAnyH_take (i := 24) (v := .slice A l.length c) rfl (by kernel_rfl) (by kernel_rfl) (by kernel_rfl) (fun _ _ _ h => h) (Or.inl ⟨by rfl, fun W _ => by go_simp; try with_reducible rfl⟩) hS ?_
  simp only [Act.put, List.getElem_toArray, List.getElem_cons_zero, List.getElem_cons_succ, List.setIfInBounds_toArray, List.set_cons_succ, List.set_cons_zero]
  refine wpAnyH_take (i := 25) (v := .int .u64 now.1) rfl (by kernel_rfl) (by kernel_rfl) (by kernel_rfl) (fun _ _ _ h => h) (Or.inl ⟨by rfl, fun W _ => by go_simp; try with_reducible rfl⟩) hS ?_
  simp only [Act.put, List.getElem_toArray, List.getElem_cons_zero, List.getElem_cons_succ, List.setIfInBounds_toArray, List.set_cons_succ, List.set_cons_zero]
  refine wpAnyH_take (i := 28) (v := .slice A l.length c) rfl (by kernel_rfl) (by kernel_rfl) (by kernel_rfl) (fun _ _ _ h => h) (Or.inl ⟨by rfl, fun W _ => by go_simp; try with_reducible rfl⟩) hS ?_
  simp only [Act.put, List.getElem_toArray, List.getElem_cons_zero, List.getElem_cons_succ, List.setIfInBounds_toArray, List.set_cons_succ, List.set_cons_zero]
  refine wpAnyH_take (i := 30) (v := .int .u64 now.1) rfl (by kernel_rfl) (by kernel_rfl) (by kernel_rfl) (fun _ _ _ h => h) (Or.inl ⟨by rfl, fun W _ => by go_simp; try with_reducible rfl⟩) hS ?_
  simp only [Act.put, List.getElem_toArray, List.getElem_cons_zero, List.getElem_cons_succ, List.setIfInBounds_toArray, List.set_cons_succ, List.set_cons_zero]
  refine wpAnyH_ready (rs := [26]) (by kernel_rfl) (by simp) ?_
  refine AllReadyH.cons rfl (fun Kq hK => ?_) AllReadyH.nil
  go_simp
  with_reducible refine (C5.out _ (HLL.out _ hS.below)).mono ?_
  rintro e y26 ⟨A8, c8, rfl, rq, bq⟩
  have R8 := Lib.hid rq
  clear rq
  refine hK.out _ _ (hS.call bq) (fun hS => ?_)
  clear hK Kq bq
  try simp only [Act.put, List.getElem_toArray, List.getElem_cons_zero, List.getElem_cons_succ, List.setIfInBounds_toArray, List.set_cons_succ, List.set_cons_zero]
  refine wpAnyH_ready (rs := [27]) (by kernel_rfl) (by simp) ?_
  refine AllReadyH.cons rfl (fun Kq hK => ?_) AllReadyH.nil
  go_simp
  with_reducible refine (itheirs_w A8 c8 O _ R8.out (by have := HOLL.out; omega)).mono ?_
  rintro e y27 ⟨A9, c9, rfl, rq, bq⟩
  have R9 := Lib.hid rq
  clear rq R8
  refine hK.out _ _ (hS.call bq) (fun hS => ?_)
  clear hK Kq bq
  try simp only [Act.put, List.getElem_toArray, List.getElem_cons_zero, List.getElem_cons_succ, List.setIfInBounds_toArray, List.set_cons_succ, List.set_cons_zero]
  refine wpAnyH_ready (rs := [29]) (by kernel_rfl) (by simp) ?_
  refine AllReadyH.cons rfl (fun Kq hK => ?_) AllReadyH.nil
  go_simp
  with_reducible refine (itheirs_w A c l _ (HLL.out _ hS.below) (by have := HN.out; omega)).mono ?_
  rintro e y29 ⟨A10, c10, rfl, rq, bq⟩
  have R10 := Lib.hid rq
  clear rq
  have R92 := Lib.hid ((R9.out.below bq).more bq.size)
  clear R9
  have R9 := R92
  clear R92
  refine hK.out _ _ (hS.call bq) (fun hS => ?_)
  clear hK Kq bq
  try simp only [Act.put, List.getElem_toArray, List.getElem_cons_zero, List.getElem_cons_succ, List.setIfInBounds_toArray, List.set_cons_succ, List.set_cons_zero]
  refine wpAnyH_ready (rs := [31]) (by kernel_rfl) (by simp) ?_
  refine AllReadyH.cons rfl (fun Kq hK => ?_) AllReadyH.nil
  go_simp
  with_reducible refine (C6.out _ _ _ R10.out).mono ?_
  rintro e y31 ⟨A11, c11, rfl, rq, bq⟩
  have R11 := Lib.hid rq
  clear rq R10
  have R92 := Lib.hid ((R9.out.below bq).more bq.size)
  clear R9
  have R9 := R92
  clear R92
  refine hK.out _ _ (hS.call bq) (fun hS => ?_)
  clear hK Kq bq
  try simp only [Act.put, List.getElem_toArray, List.getElem_cons_zero, List.getElem_cons_succ, List.setIfInBounds_toArray, List.set_cons_succ, List.set_cons_zero]
  refine wpAnyH_ready (rs := [32]) (by kernel_rfl) (by simp) ?_
  refine AllReadyH.cons rfl (fun Kq hK => ?_) AllReadyH.nil
  go_simp
  with_reducible refine (rSameI_w A9 A11 c9 c11 O _ R9.out R11.out (by have := HOLL.out; omega)).mono ?_
  rintro e y32 ⟨rfl, bq⟩
  clear R9 R11
  refine hK.out _ _ (hS.call bq) (fun hS => ?_)
  clear hK Kq bq
  try simp only [Act.put, List.getElem_toArray, List.getElem_cons_zero, List.getElem_cons_succ, List.setIfInBounds_toArray, List.set_cons_succ, List.set_cons_zero]
  refine wpAnyH_take (i := 33) (v := .bool true) rfl (by kernel_rfl) (by kernel_rfl) (by kernel_rfl) (fun _ _ _ h => h) (Or.inl ⟨by rfl, fun W _ => by go_simp; try with_reducible rfl⟩) hS ?_
  simp only [Act.put, List.getElem_toArray, List.getElem_cons_zero, List.getElem_cons_succ, List.setIfInBounds_toArray, List.set_cons_succ, List.set_cons_zero]
  refine wpAnyH_ready (rs := [34]) (by kernel_rfl) (by simp) ?_
  refine AllReadyH.cons rfl (fun Kq hK => ?_) AllReadyH.nil
  go_simp
  refine hK.out _ _ hS (fun hS => ?_)
  clear hK Kq
  refine wpAnyH_done (by kernel_rfl) ?_ _
  have B9 := Lib.hid hS.below
  clear hS
  go_wp2_with fail
  go_ret
  exact ⟨by first | rfl | simp, B9.out⟩
set_option maxRecDepth 20000 in
set_option maxHeartbeats 8000000 in
theorem rcTells_walk (HPU : RPutOk) (HHA : RHasOk) (HOL : ROldOk) (A : Option Addr) (c : Nat) (l : List ItV) (id : K32) (now : IntV .u64) (w : World) (hl : RowIn (encKI .u64) 33 w w.heap.size A c l) :
    Calls Try.prog 3 #[.slice A l.length c, .agg (encK id).toArray, .int .u64 now.1] w fun e w' => e = .returned (.bool true) ∧ Below w.heap.size w w' := by
  by_cases h : 200 < l.length
  · exact rcTells_h HPU HHA A c l id now w h
  · exact rcTells_m HPU HHA HOL A c l id now w hl (by omega)
end Go.Proofs.Ytiboelfakajohaa
