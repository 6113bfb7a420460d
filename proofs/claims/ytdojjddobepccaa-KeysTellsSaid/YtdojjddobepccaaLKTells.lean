/- KeysTells: the statement's walk (made by genTells.py). -/
import Derived.Test.YtdojjddobepccaaLKTwice
import Derived.Test.YtdojjddobepccaaHeld
namespace Go.Proofs.Ytdojjddobepccaa
open Go.RowKit Go.Sort
theorem less_of {a b : K32} {r : Bool} (h : ltK a b = r) (W : World) : Calls Try.prog 15 #[.agg (bytesA a.1), .agg (bytesA b.1)] W fun e w' => e = .returned (.bool r) ∧ Below W.heap.size W w' :=
  (less_any a b W).mono fun _ _ ⟨h1, h2⟩ => ⟨h ▸ h1, h2.below⟩
theorem refSort_in (A : Option Addr) (c : Nat) (l : List K32) (B : Nat) (w : World) (hl : l.length ≤ 100000) (hB : B ≤ w.heap.size) (h : RowIn encK 32 w B A c l) :
    Calls Try.prog 19 #[.slice A l.length c] w fun e w' => ∃ A' c', e = .returned (.slice A' (sortK l).length c') ∧ RowIn encK 32 w' w'.heap.size A' c' (sortK l) ∧ Below w.heap.size w w' :=
  (refSort_any A c l B hl w hB h).mono fun _ _ ⟨_, h1, h2, h3⟩ => by
    obtain ⟨A', c', rfl, hr⟩ := RowIn.of_own encK_len h2
    exact ⟨A', c', h1, hr, h3⟩
theorem refRemove_in (A : Option Addr) (c : Nat) (l : List K32) (k : K32) (B : Nat) (hl : l.length ≤ 100000) (w : World) (hB : B ≤ w.heap.size) (h : RowIn encK 32 w B A c l) :
    Calls Try.prog 14 #[.slice A l.length c, .agg (bytesA k.1)] w fun e w' => ∃ A' c', e = .returned (.tuple #[.slice A' (l.erase k).length c', .bool (decide (k ∈ l))]) ∧ RowIn encK 32 w' w'.heap.size A' c' (l.erase k) ∧ Below w.heap.size w w' :=
  (refRemove_any A c l k B hl w hB h).mono fun _ _ ⟨_, h1, h2, h3⟩ => by
    obtain ⟨A', c', rfl, hr⟩ := RowIn.of_own encK_len h2
    exact ⟨A', c', h1, hr, h3⟩
set_option maxHeartbeats 16000000 in
theorem ktells_small (a b : K32) (A : Option Addr) (c : Nat) (l : List K32) (A' : Option Addr) (c' : Nat) (m : List K32) (hl : l.length ≤ 200) (hm : m.length ≤ 200) (w : World) (h : RowIn encK 32 w w.heap.size A c l) (h' : RowIn encK 32 w w.heap.size A' c' m) :
    Calls Try.prog 3 #[.agg (bytesA a.1), .agg (bytesA b.1), .slice A l.length c, .slice A' m.length c'] w fun e w' => e = .returned (.bool true) ∧ Below w.heap.size w w' := by
  have K4 := Lib.hid ((Blk.new w 23 (bytesA a.1)).alloc (.cells (bytesA b.1) 23))
  have K5 := Lib.hid (blk_new (w := w.alloc (.cells (bytesA a.1) 23)) 23 (bytesA b.1) (g := w.heap.size + 1) (by simp))
  have HB6 := Lib.hid (show Below w.heap.size w ((w.alloc (.cells (bytesA a.1) 23)).alloc (.cells (bytesA b.1) 23)) from ((Below.refl _ _).alloc (Nat.le_refl _) _).alloc (by simp) _)
  have hle : (insK a l).length ≤ 201 := by have := insK_len a l; omega
  have hee : (l.erase a).length ≤ 200 := by have := List.length_erase_le (a := a) (l := l); omega
  have C2 := Lib.hid (less_of (rfl : ltK a b = ltK a b))
  have C5 := Lib.hid (refLess_any a b)
  have C9 := Lib.hid (fun W (hW : Below w.heap.size w W) => sort_in A c l w.heap.size W (by omega) hW.size (h.below hW))
  have C11 := Lib.hid (fun W (hW : Below w.heap.size w W) => refSort_in A c l w.heap.size W (by omega) hW.size (h.below hW))
  have CS := Lib.hid (fun A1 c1 A2 c2 W (h1 : RowIn encK 32 W W.heap.size A1 c1 (sortK l)) (h2 : RowIn encK 32 W W.heap.size A2 c2 (sortK l)) => same_any A1 c1 (sortK l) A2 c2 (sortK l) W (by rw [sortK_len]; omega) (by rw [sortK_len]; omega) h1 h2)
  have C16 := Lib.hid (fun W (hW : Below w.heap.size w W) => distinct_any A c l w.heap.size W (by omega) hW.size (h.below hW))
  have C18 := Lib.hid (fun W (hW : Below w.heap.size w W) => refDistinct_any A c l w.heap.size (by omega) W hW.size (h.below hW))
  have C24 := Lib.hid (fun W (hW : Below w.heap.size w W) => has_any A c l a w.heap.size (by omega) W hW.size (h.below hW))
  have C27 := Lib.hid (fun W (hW : Below w.heap.size w W) => refHas_any A c l a w.heap.size W (by omega) hW.size (h.below hW))
  have C33 := Lib.hid (fun W (hW : Below w.heap.size w W) => meet_any A c l A' c' m w.heap.size (by omega) (by omega) W hW.size (h.below hW) (h'.below hW))
  have C36 := Lib.hid (fun W (hW : Below w.heap.size w W) => refMeet_any A c l A' c' m w.heap.size (by omega) (by omega) W hW.size (h.below hW) (h'.below hW))
  have D1 := Lib.hid (fun W (hW : Below w.heap.size w W) => insert_in A c l a w.heap.size (by omega) W hW.size (h.below hW))
  have D2 := Lib.hid (fun W (hW : Below w.heap.size w W) => refInsert_any A c l a (by omega) W ((h.below hW).more hW.size))
  have D3 := Lib.hid (fun W (hW : Below w.heap.size w W) => remove_in A c l a w.heap.size (by omega) W hW.size (h.below hW))
  have D4 := Lib.hid (fun W (hW : Below w.heap.size w W) => refRemove_in A c l a w.heap.size (by omega) W hW.size (h.below hW))
  have CI0 := Lib.hid (fun Ax cx Ay cy W (h1 : RowIn encK 32 W W.heap.size Ax cx (insK a l)) (h2 : RowIn encK 32 W W.heap.size Ay cy (insK a l)) => same_any Ax cx (insK a l) Ay cy (insK a l) W (by omega) (by omega) h1 h2)
  have CE0 := Lib.hid (fun Ax cx Ay cy W (h1 : RowIn encK 32 W W.heap.size Ax cx (l.erase a)) (h2 : RowIn encK 32 W W.heap.size Ay cy (l.erase a)) => same_any Ax cx (l.erase a) Ay cy (l.erase a) W (by omega) (by omega) h1 h2)
  rw [sortK_len] at C9 C11 CS
  rw [decide_eq_true rfl] at CS CI0 CE0
  clear h h' hle hee
  obtain ⟨r1, hr1⟩ : ∃ r, ltK a b = r := ⟨_, rfl⟩
  rw [hr1] at C2 C5
  obtain ⟨r2, hr2⟩ : ∃ r, decide l.Nodup = r := ⟨_, rfl⟩
  rw [hr2] at C16 C18
  obtain ⟨f2, hf2⟩ : ∃ r, decide (a ∈ l) = r := ⟨_, rfl⟩
  rw [hf2] at C24 C27 D1 D2 D3 D4
  obtain ⟨r4, hr4⟩ : ∃ r, meetF l m = r := ⟨_, rfl⟩
  rw [hr4] at C33 C36
  obtain ⟨f1, hf1⟩ : ∃ r, (!f2) = r := ⟨_, rfl⟩
  rw [hf1] at D1 D2
  obtain ⟨li, hli⟩ : ∃ r, insK a l = r := ⟨_, rfl⟩
  rw [hli] at D1 D2 CI0
  obtain ⟨le, hle⟩ : ∃ r, l.erase a = r := ⟨_, rfl⟩
  rw [hle] at D3 D4 CE0
  obtain ⟨mi, hmi⟩ : ∃ r, li.length = r := ⟨_, rfl⟩
  rw [hmi] at D1 D2 CI0
  obtain ⟨me, hme⟩ : ∃ r, le.length = r := ⟨_, rfl⟩
  rw [hme] at D3 D4 CE0
  obtain ⟨sl, hsl⟩ : ∃ r, sortK l = r := ⟨_, rfl⟩
  rw [hsl] at C9 C11 CS
  obtain ⟨n, hn⟩ : ∃ n, l.length = n := ⟨_, rfl⟩
  rw [hn] at C9 C11 CS C16 C18 C24 C27 C33 C36 D1 D2 D3 D4 hl ⊢
  obtain ⟨n', hn'⟩ : ∃ n, m.length = n := ⟨_, rfl⟩
  rw [hn'] at C33 C36 hm ⊢
  clear hr1 hr2 hf2 hr4 hf1 hli hle hmi hme hsl hn hn'
  have d0 : decide ((200 : Int) < (n : Int)) = false := decide_eq_false (by omega)
  have d1 : decide ((200 : Int) < (n' : Int)) = false := decide_eq_false (by omega)
  go_enter Try.func3, Try.ntmps3
  go_wp2_with (first
    | (go_at_call 10; refine (shown_any _).mono ?_; rintro e w1 ⟨rfl, b1⟩; replace K4 := Lib.hid (below_blk b1 K4.out K4.out.lt); replace K5 := Lib.hid (below_blk b1 K5.out K5.out.lt); replace HB6 := Lib.hid (HB6.out.trans (b1.mono HB6.out.size)); clear b1)
    | ((with_reducible refine at_loadg 4 ?_); refine wpList_load_rowg (by rfl) 23 (.tmp 4) rfl w.heap.size rfl 23 (bytesA a.1) _ K4.out Try.underlying23 rfl (szK a) ?_))
  with_reducible refine (D1.out _ HB6.out).mono ?_
  rintro e y0 ⟨Ax, cx, rfl, r0, b0⟩
  replace K4 := Lib.hid (below_blk b0 K4.out K4.out.lt)
  replace K5 := Lib.hid (below_blk b0 K5.out K5.out.lt)
  replace HB6 := Lib.hid (HB6.out.trans (b0.mono HB6.out.size))
  have RX := Lib.hid r0
  clear b0 r0
  go_wp2_with ((with_reducible refine at_loadg 4 ?_); refine wpList_load_rowg (by rfl) 23 (.tmp 4) rfl w.heap.size rfl 23 (bytesA a.1) _ K4.out Try.underlying23 rfl (szK a) ?_)
  with_reducible refine (D2.out _ HB6.out).mono ?_
  rintro e y14 ⟨Ay, cy, rfl, r14, b14⟩
  replace K4 := Lib.hid (below_blk b14 K4.out K4.out.lt)
  replace K5 := Lib.hid (below_blk b14 K5.out K5.out.lt)
  replace HB6 := Lib.hid (HB6.out.trans (b14.mono HB6.out.size))
  replace RX := Lib.hid ((RX.out.below b14).more b14.size)
  have RY := Lib.hid r14
  clear b14 r14
  go_wp2_with ((with_reducible refine at_loadg 4 ?_); refine wpList_load_rowg (by rfl) 23 (.tmp 4) rfl w.heap.size rfl 23 (bytesA a.1) _ K4.out Try.underlying23 rfl (szK a) ?_)
  with_reducible refine (D3.out _ HB6.out).mono ?_
  rintro e y15 ⟨Au, cu, rfl, r15, b15⟩
  replace K4 := Lib.hid (below_blk b15 K4.out K4.out.lt)
  replace K5 := Lib.hid (below_blk b15 K5.out K5.out.lt)
  replace HB6 := Lib.hid (HB6.out.trans (b15.mono HB6.out.size))
  replace RX := Lib.hid ((RX.out.below b15).more b15.size)
  replace RY := Lib.hid ((RY.out.below b15).more b15.size)
  have RU := Lib.hid r15
  clear b15 r15
  go_wp2_with ((with_reducible refine at_loadg 4 ?_); refine wpList_load_rowg (by rfl) 23 (.tmp 4) rfl w.heap.size rfl 23 (bytesA a.1) _ K4.out Try.underlying23 rfl (szK a) ?_)
  with_reducible refine (D4.out _ HB6.out).mono ?_
  rintro e y16 ⟨Av, cv, rfl, r16, b16⟩
  replace K4 := Lib.hid (below_blk b16 K4.out K4.out.lt)
  replace K5 := Lib.hid (below_blk b16 K5.out K5.out.lt)
  replace HB6 := Lib.hid (HB6.out.trans (b16.mono HB6.out.size))
  replace RX := Lib.hid ((RX.out.below b16).more b16.size)
  replace RY := Lib.hid ((RY.out.below b16).more b16.size)
  replace RU := Lib.hid ((RU.out.below b16).more b16.size)
  have RV := Lib.hid r16
  clear b16 r16
  have CI := Lib.hid (CI0.out Ax cx Ay cy)
  have CE := Lib.hid (CE0.out Au cu Av cv)
  clear CI0 CE0 D1 D2 D3 D4
  go_wp2_with fail
  rename World => w6
  refine wp_region_held_drew (S := From w6) (by kernel_rfl) (Below.refl _ _).drew ?_
  intro hS
  refine wpAnyH_take (i := 0) (v := .agg (bytesA a.1)) rfl (by kernel_rfl) (by kernel_rfl) (by kernel_rfl) (fun _ _ _ h => h) (yieldsIf_load_row (by rfl) 23 (.tmp 4) rfl w.heap.size rfl 23 (bytesA a.1) _ (fun _ hW => below_blk hW.below K4.out K4.out.lt) Try.underlying23 rfl (szK a)) hS ?_
  simp only [Act.put, List.getElem_toArray, List.getElem_cons_zero, List.setIfInBounds_toArray, List.set_cons_succ, List.set_cons_zero]
  refine wpAnyH_take (i := 1) (v := .agg (bytesA b.1)) rfl (by kernel_rfl) (by kernel_rfl) (by kernel_rfl) (fun _ _ _ h => h) (yieldsIf_load_row (by rfl) 23 (.tmp 5) rfl (w.heap.size + 1) rfl 23 (bytesA b.1) _ (fun _ hW => below_blk hW.below K5.out K5.out.lt) Try.underlying23 rfl (szK b)) hS ?_
  simp only [Act.put, List.getElem_toArray, List.getElem_cons_zero, List.getElem_cons_succ, List.setIfInBounds_toArray, List.set_cons_succ, List.set_cons_zero]
  refine wpAnyH_take (i := 3) (v := .agg (bytesA a.1)) rfl (by kernel_rfl) (by kernel_rfl) (by kernel_rfl) (fun _ _ _ h => h) (yieldsIf_load_row (by rfl) 23 (.tmp 4) rfl w.heap.size rfl 23 (bytesA a.1) _ (fun _ hW => below_blk hW.below K4.out K4.out.lt) Try.underlying23 rfl (szK a)) hS ?_
  simp only [Act.put, List.getElem_toArray, List.getElem_cons_zero, List.getElem_cons_succ, List.setIfInBounds_toArray, List.set_cons_succ, List.set_cons_zero]
  refine wpAnyH_take (i := 4) (v := .agg (bytesA b.1)) rfl (by kernel_rfl) (by kernel_rfl) (by kernel_rfl) (fun _ _ _ h => h) (yieldsIf_load_row (by rfl) 23 (.tmp 5) rfl (w.heap.size + 1) rfl 23 (bytesA b.1) _ (fun _ hW => below_blk hW.below K5.out K5.out.lt) Try.underlying23 rfl (szK b)) hS ?_
  simp only [Act.put, List.getElem_toArray, List.getElem_cons_zero, List.getElem_cons_succ, List.setIfInBounds_toArray, List.set_cons_succ, List.set_cons_zero]
  refine wpAnyH_ready (rs := [2]) (by kernel_rfl) (by simp) ?_
  refine AllReadyH.cons rfl (fun Kq hK => ?_) AllReadyH.nil
  go_simp
  with_reducible refine (C2.out _).mono ?_
  rintro e x1 ⟨rfl, b1⟩
  refine hK.out _ _ (hS.call b1) (fun hS => ?_)
  clear hK Kq b1
  refine wpAnyH_ready (rs := [5]) (by kernel_rfl) (by simp) ?_
  refine AllReadyH.cons rfl (fun Kq hK => ?_) AllReadyH.nil
  go_simp
  with_reducible refine (C5.out _).mono ?_
  rintro e x2 ⟨rfl, b2⟩
  refine hK.out _ _ (hS.call b2) (fun hS => ?_)
  clear hK Kq b2
  refine wpAnyH_take (i := 6) (v := .bool true) rfl (by kernel_rfl) (by kernel_rfl) (by kernel_rfl) (fun _ _ _ h => h) (Or.inl ⟨by rfl, fun W _ => by go_simp; try with_reducible rfl⟩) hS ?_
  simp only [Act.put, List.getElem_toArray, List.getElem_cons_zero, List.getElem_cons_succ, List.setIfInBounds_toArray, List.set_cons_succ, List.set_cons_zero]
  refine wpAnyH_take (i := 7) (v := .bool true) rfl (by kernel_rfl) (by kernel_rfl) (by kernel_rfl) (fun _ _ _ h => h) (Or.inl ⟨by rfl, fun W _ => by go_simp; try with_reducible rfl⟩) hS ?_
  simp only [Act.put, List.getElem_toArray, List.getElem_cons_zero, List.getElem_cons_succ, List.setIfInBounds_toArray, List.set_cons_succ, List.set_cons_zero]
  refine wpAnyH_take (i := 8) (v := .slice A n c) rfl (by kernel_rfl) (by kernel_rfl) (by kernel_rfl) (fun _ _ _ h => h) (Or.inl ⟨by rfl, fun W _ => by go_simp; try with_reducible rfl⟩) hS ?_
  simp only [Act.put, List.getElem_toArray, List.getElem_cons_zero, List.getElem_cons_succ, List.setIfInBounds_toArray, List.set_cons_succ, List.set_cons_zero]
  refine wpAnyH_take (i := 10) (v := .slice A n c) rfl (by kernel_rfl) (by kernel_rfl) (by kernel_rfl) (fun _ _ _ h => h) (Or.inl ⟨by rfl, fun W _ => by go_simp; try with_reducible rfl⟩) hS ?_
  simp only [Act.put, List.getElem_toArray, List.getElem_cons_zero, List.getElem_cons_succ, List.setIfInBounds_toArray, List.set_cons_succ, List.set_cons_zero]
  refine wpAnyH_ready (rs := [9]) (by kernel_rfl) (by simp) ?_
  refine AllReadyH.cons rfl (fun Kq hK => ?_) AllReadyH.nil
  go_simp
  with_reducible refine (C9.out _ (HB6.out.trans (hS.below.mono HB6.out.size))).mono ?_
  rintro e x3 ⟨A1, c1, rfl, r3, b3⟩
  have R1 := Lib.hid r3
  clear r3
  refine hK.out _ _ (hS.call b3) (fun hS => ?_)
  clear hK Kq b3
  refine wpAnyH_ready (rs := [11]) (by kernel_rfl) (by simp) ?_
  refine AllReadyH.cons rfl (fun Kq hK => ?_) AllReadyH.nil
  go_simp
  with_reducible refine (C11.out _ (HB6.out.trans (hS.below.mono HB6.out.size))).mono ?_
  rintro e x4 ⟨A2, c2, rfl, r4, b4⟩
  have R2 := Lib.hid r4
  have R1b := Lib.hid ((R1.out.below b4).more b4.size)
  clear r4
  refine hK.out _ _ (hS.call b4) (fun hS => ?_)
  clear hK Kq b4
  refine wpAnyH_ready (rs := [12]) (by kernel_rfl) (by simp) ?_
  refine AllReadyH.cons rfl (fun Kq hK => ?_) AllReadyH.nil
  go_simp
  with_reducible refine (CS.out A1 c1 A2 c2 _ R1b.out R2.out).mono ?_
  rintro e x5 ⟨rfl, b5⟩
  refine hK.out _ _ (hS.call b5) (fun hS => ?_)
  clear hK Kq b5
  refine wpAnyH_take (i := 13) (v := .bool true) rfl (by kernel_rfl) (by kernel_rfl) (by kernel_rfl) (fun _ _ _ h => h) (Or.inl ⟨by rfl, fun W _ => by go_simp; try with_reducible rfl⟩) hS ?_
  simp only [Act.put, List.getElem_toArray, List.getElem_cons_zero, List.getElem_cons_succ, List.setIfInBounds_toArray, List.set_cons_succ, List.set_cons_zero]
  refine wpAnyH_take (i := 14) (v := .bool true) rfl (by kernel_rfl) (by kernel_rfl) (by kernel_rfl) (fun _ _ _ h => h) (Or.inl ⟨by rfl, fun W _ => by go_simp; try with_reducible rfl⟩) hS ?_
  simp only [Act.put, List.getElem_toArray, List.getElem_cons_zero, List.getElem_cons_succ, List.setIfInBounds_toArray, List.set_cons_succ, List.set_cons_zero]
  refine wpAnyH_take (i := 15) (v := .slice A n c) rfl (by kernel_rfl) (by kernel_rfl) (by kernel_rfl) (fun _ _ _ h => h) (Or.inl ⟨by rfl, fun W _ => by go_simp; try with_reducible rfl⟩) hS ?_
  simp only [Act.put, List.getElem_toArray, List.getElem_cons_zero, List.getElem_cons_succ, List.setIfInBounds_toArray, List.set_cons_succ, List.set_cons_zero]
  refine wpAnyH_take (i := 17) (v := .slice A n c) rfl (by kernel_rfl) (by kernel_rfl) (by kernel_rfl) (fun _ _ _ h => h) (Or.inl ⟨by rfl, fun W _ => by go_simp; try with_reducible rfl⟩) hS ?_
  simp only [Act.put, List.getElem_toArray, List.getElem_cons_zero, List.getElem_cons_succ, List.setIfInBounds_toArray, List.set_cons_succ, List.set_cons_zero]
  refine wpAnyH_ready (rs := [16]) (by kernel_rfl) (by simp) ?_
  refine AllReadyH.cons rfl (fun Kq hK => ?_) AllReadyH.nil
  go_simp
  with_reducible refine (C16.out _ (HB6.out.trans (hS.below.mono HB6.out.size))).mono ?_
  rintro e x6 ⟨rfl, b6⟩
  refine hK.out _ _ (hS.call b6) (fun hS => ?_)
  clear hK Kq b6
  refine wpAnyH_ready (rs := [18]) (by kernel_rfl) (by simp) ?_
  refine AllReadyH.cons rfl (fun Kq hK => ?_) AllReadyH.nil
  go_simp
  with_reducible refine (C18.out _ (HB6.out.trans (hS.below.mono HB6.out.size))).mono ?_
  rintro e x7 ⟨rfl, b7⟩
  refine hK.out _ _ (hS.call b7) (fun hS => ?_)
  clear hK Kq b7
  refine wpAnyH_take (i := 19) (v := .bool true) rfl (by kernel_rfl) (by kernel_rfl) (by kernel_rfl) (fun _ _ _ h => h) (Or.inl ⟨by rfl, fun W _ => by go_simp; try with_reducible rfl⟩) hS ?_
  simp only [Act.put, List.getElem_toArray, List.getElem_cons_zero, List.getElem_cons_succ, List.setIfInBounds_toArray, List.set_cons_succ, List.set_cons_zero]
  refine wpAnyH_take (i := 20) (v := .bool true) rfl (by kernel_rfl) (by kernel_rfl) (by kernel_rfl) (fun _ _ _ h => h) (Or.inl ⟨by rfl, fun W _ => by go_simp; try with_reducible rfl⟩) hS ?_
  simp only [Act.put, List.getElem_toArray, List.getElem_cons_zero, List.getElem_cons_succ, List.setIfInBounds_toArray, List.set_cons_succ, List.set_cons_zero]
  refine wpAnyH_take (i := 21) (v := .bool true) rfl (by kernel_rfl) (by kernel_rfl) (by kernel_rfl) (fun _ _ _ h => h) (Or.inl ⟨by rfl, fun W _ => by go_simp; try with_reducible rfl⟩) hS ?_
  simp only [Act.put, List.getElem_toArray, List.getElem_cons_zero, List.getElem_cons_succ, List.setIfInBounds_toArray, List.set_cons_succ, List.set_cons_zero]
  refine wpAnyH_take (i := 22) (v := .slice A n c) rfl (by kernel_rfl) (by kernel_rfl) (by kernel_rfl) (fun _ _ _ h => h) (Or.inl ⟨by rfl, fun W _ => by go_simp; try with_reducible rfl⟩) hS ?_
  simp only [Act.put, List.getElem_toArray, List.getElem_cons_zero, List.getElem_cons_succ, List.setIfInBounds_toArray, List.set_cons_succ, List.set_cons_zero]
  refine wpAnyH_take (i := 23) (v := .agg (bytesA a.1)) rfl (by kernel_rfl) (by kernel_rfl) (by kernel_rfl) (fun _ _ _ h => h) (yieldsIf_load_row (by rfl) 23 (.tmp 4) rfl w.heap.size rfl 23 (bytesA a.1) _ (fun _ hW => below_blk hW.below K4.out K4.out.lt) Try.underlying23 rfl (szK a)) hS ?_
  simp only [Act.put, List.getElem_toArray, List.getElem_cons_zero, List.getElem_cons_succ, List.setIfInBounds_toArray, List.set_cons_succ, List.set_cons_zero]
  refine wpAnyH_take (i := 25) (v := .slice A n c) rfl (by kernel_rfl) (by kernel_rfl) (by kernel_rfl) (fun _ _ _ h => h) (Or.inl ⟨by rfl, fun W _ => by go_simp; try with_reducible rfl⟩) hS ?_
  simp only [Act.put, List.getElem_toArray, List.getElem_cons_zero, List.getElem_cons_succ, List.setIfInBounds_toArray, List.set_cons_succ, List.set_cons_zero]
  refine wpAnyH_take (i := 26) (v := .agg (bytesA a.1)) rfl (by kernel_rfl) (by kernel_rfl) (by kernel_rfl) (fun _ _ _ h => h) (yieldsIf_load_row (by rfl) 23 (.tmp 4) rfl w.heap.size rfl 23 (bytesA a.1) _ (fun _ hW => below_blk hW.below K4.out K4.out.lt) Try.underlying23 rfl (szK a)) hS ?_
  simp only [Act.put, List.getElem_toArray, List.getElem_cons_zero, List.getElem_cons_succ, List.setIfInBounds_toArray, List.set_cons_succ, List.set_cons_zero]
  refine wpAnyH_ready (rs := [24]) (by kernel_rfl) (by simp) ?_
  refine AllReadyH.cons rfl (fun Kq hK => ?_) AllReadyH.nil
  go_simp
  with_reducible refine (C24.out _ (HB6.out.trans (hS.below.mono HB6.out.size))).mono ?_
  rintro e x8 ⟨rfl, b8⟩
  refine hK.out _ _ (hS.call b8) (fun hS => ?_)
  clear hK Kq b8
  refine wpAnyH_ready (rs := [27]) (by kernel_rfl) (by simp) ?_
  refine AllReadyH.cons rfl (fun Kq hK => ?_) AllReadyH.nil
  go_simp
  with_reducible refine (C27.out _ (HB6.out.trans (hS.below.mono HB6.out.size))).mono ?_
  rintro e x9 ⟨rfl, b9⟩
  refine hK.out _ _ (hS.call b9) (fun hS => ?_)
  clear hK Kq b9
  refine wpAnyH_take (i := 28) (v := .bool true) rfl (by kernel_rfl) (by kernel_rfl) (by kernel_rfl) (fun _ _ _ h => h) (Or.inl ⟨by rfl, fun W _ => by go_simp; try with_reducible rfl⟩) hS ?_
  simp only [Act.put, List.getElem_toArray, List.getElem_cons_zero, List.getElem_cons_succ, List.setIfInBounds_toArray, List.set_cons_succ, List.set_cons_zero]
  refine wpAnyH_take (i := 29) (v := .bool true) rfl (by kernel_rfl) (by kernel_rfl) (by kernel_rfl) (fun _ _ _ h => h) (Or.inl ⟨by rfl, fun W _ => by go_simp; try with_reducible rfl⟩) hS ?_
  simp only [Act.put, List.getElem_toArray, List.getElem_cons_zero, List.getElem_cons_succ, List.setIfInBounds_toArray, List.set_cons_succ, List.set_cons_zero]
  refine wpAnyH_take (i := 30) (v := .bool true) rfl (by kernel_rfl) (by kernel_rfl) (by kernel_rfl) (fun _ _ _ h => h) (Or.inl ⟨by rfl, fun W _ => by go_simp; try with_reducible rfl⟩) hS ?_
  simp only [Act.put, List.getElem_toArray, List.getElem_cons_zero, List.getElem_cons_succ, List.setIfInBounds_toArray, List.set_cons_succ, List.set_cons_zero]
  refine wpAnyH_take (i := 31) (v := .slice A n c) rfl (by kernel_rfl) (by kernel_rfl) (by kernel_rfl) (fun _ _ _ h => h) (Or.inl ⟨by rfl, fun W _ => by go_simp; try with_reducible rfl⟩) hS ?_
  simp only [Act.put, List.getElem_toArray, List.getElem_cons_zero, List.getElem_cons_succ, List.setIfInBounds_toArray, List.set_cons_succ, List.set_cons_zero]
  refine wpAnyH_take (i := 32) (v := .slice A' n' c') rfl (by kernel_rfl) (by kernel_rfl) (by kernel_rfl) (fun _ _ _ h => h) (Or.inl ⟨by rfl, fun W _ => by go_simp; try with_reducible rfl⟩) hS ?_
  simp only [Act.put, List.getElem_toArray, List.getElem_cons_zero, List.getElem_cons_succ, List.setIfInBounds_toArray, List.set_cons_succ, List.set_cons_zero]
  refine wpAnyH_take (i := 34) (v := .slice A n c) rfl (by kernel_rfl) (by kernel_rfl) (by kernel_rfl) (fun _ _ _ h => h) (Or.inl ⟨by rfl, fun W _ => by go_simp; try with_reducible rfl⟩) hS ?_
  simp only [Act.put, List.getElem_toArray, List.getElem_cons_zero, List.getElem_cons_succ, List.setIfInBounds_toArray, List.set_cons_succ, List.set_cons_zero]
  refine wpAnyH_take (i := 35) (v := .slice A' n' c') rfl (by kernel_rfl) (by kernel_rfl) (by kernel_rfl) (fun _ _ _ h => h) (Or.inl ⟨by rfl, fun W _ => by go_simp; try with_reducible rfl⟩) hS ?_
  simp only [Act.put, List.getElem_toArray, List.getElem_cons_zero, List.getElem_cons_succ, List.setIfInBounds_toArray, List.set_cons_succ, List.set_cons_zero]
  refine wpAnyH_ready (rs := [33]) (by kernel_rfl) (by simp) ?_
  refine AllReadyH.cons rfl (fun Kq hK => ?_) AllReadyH.nil
  go_simp
  with_reducible refine (C33.out _ (HB6.out.trans (hS.below.mono HB6.out.size))).mono ?_
  rintro e x10 ⟨rfl, b10⟩
  refine hK.out _ _ (hS.call b10) (fun hS => ?_)
  clear hK Kq b10
  refine wpAnyH_ready (rs := [36]) (by kernel_rfl) (by simp) ?_
  refine AllReadyH.cons rfl (fun Kq hK => ?_) AllReadyH.nil
  go_simp
  with_reducible refine (C36.out _ (HB6.out.trans (hS.below.mono HB6.out.size))).mono ?_
  rintro e x11 ⟨rfl, b11⟩
  refine hK.out _ _ (hS.call b11) (fun hS => ?_)
  clear hK Kq b11
  refine wpAnyH_take (i := 37) (v := .bool true) rfl (by kernel_rfl) (by kernel_rfl) (by kernel_rfl) (fun _ _ _ h => h) (Or.inl ⟨by rfl, fun W _ => by go_simp; try with_reducible rfl⟩) hS ?_
  simp only [Act.put, List.getElem_toArray, List.getElem_cons_zero, List.getElem_cons_succ, List.setIfInBounds_toArray, List.set_cons_succ, List.set_cons_zero]
  refine wpAnyH_take (i := 38) (v := .bool true) rfl (by kernel_rfl) (by kernel_rfl) (by kernel_rfl) (fun _ _ _ h => h) (Or.inl ⟨by rfl, fun W _ => by go_simp; try with_reducible rfl⟩) hS ?_
  simp only [Act.put, List.getElem_toArray, List.getElem_cons_zero, List.getElem_cons_succ, List.setIfInBounds_toArray, List.set_cons_succ, List.set_cons_zero]
  refine wpAnyH_take (i := 39) (v := .bool true) rfl (by kernel_rfl) (by kernel_rfl) (by kernel_rfl) (fun _ _ _ h => h) (Or.inl ⟨by rfl, fun W _ => by go_simp; try with_reducible rfl⟩) hS ?_
  simp only [Act.put, List.getElem_toArray, List.getElem_cons_zero, List.getElem_cons_succ, List.setIfInBounds_toArray, List.set_cons_succ, List.set_cons_zero]
  refine wpAnyH_take (i := 40) (v := .slice Ax mi cx) rfl (by kernel_rfl) (by kernel_rfl) (by kernel_rfl) (fun _ _ _ h => h) (Or.inl ⟨by rfl, fun W _ => by go_simp; try with_reducible rfl⟩) hS ?_
  simp only [Act.put, List.getElem_toArray, List.getElem_cons_zero, List.getElem_cons_succ, List.setIfInBounds_toArray, List.set_cons_succ, List.set_cons_zero]
  refine wpAnyH_take (i := 41) (v := .slice Ay mi cy) rfl (by kernel_rfl) (by kernel_rfl) (by kernel_rfl) (fun _ _ _ h => h) (Or.inl ⟨by rfl, fun W _ => by go_simp; try with_reducible rfl⟩) hS ?_
  simp only [Act.put, List.getElem_toArray, List.getElem_cons_zero, List.getElem_cons_succ, List.setIfInBounds_toArray, List.set_cons_succ, List.set_cons_zero]
  refine wpAnyH_ready (rs := [42]) (by kernel_rfl) (by simp) ?_
  refine AllReadyH.cons rfl (fun Kq hK => ?_) AllReadyH.nil
  go_simp
  with_reducible refine (CI.out _ (RX.out.below hS.below |>.more hS.below.size) (RY.out.below hS.below |>.more hS.below.size)).mono ?_
  rintro e x12 ⟨rfl, b12⟩
  refine hK.out _ _ (hS.call b12) (fun hS => ?_)
  clear hK Kq b12
  refine wpAnyH_take (i := 43) (v := .bool true) rfl (by kernel_rfl) (by kernel_rfl) (by kernel_rfl) (fun _ _ _ h => h) (Or.inl ⟨by rfl, fun W _ => by go_simp; try with_reducible rfl⟩) hS ?_
  simp only [Act.put, List.getElem_toArray, List.getElem_cons_zero, List.getElem_cons_succ, List.setIfInBounds_toArray, List.set_cons_succ, List.set_cons_zero]
  refine wpAnyH_take (i := 44) (v := .bool true) rfl (by kernel_rfl) (by kernel_rfl) (by kernel_rfl) (fun _ _ _ h => h) (Or.inl ⟨by rfl, fun W _ => by go_simp; try with_reducible rfl⟩) hS ?_
  simp only [Act.put, List.getElem_toArray, List.getElem_cons_zero, List.getElem_cons_succ, List.setIfInBounds_toArray, List.set_cons_succ, List.set_cons_zero]
  refine wpAnyH_take (i := 45) (v := .bool f1) rfl (by kernel_rfl) (by kernel_rfl) (by kernel_rfl) (fun _ _ _ h => h) (Or.inl ⟨by rfl, fun W _ => by go_simp; try with_reducible rfl⟩) hS ?_
  simp only [Act.put, List.getElem_toArray, List.getElem_cons_zero, List.getElem_cons_succ, List.setIfInBounds_toArray, List.set_cons_succ, List.set_cons_zero]
  refine wpAnyH_take (i := 46) (v := .bool f1) rfl (by kernel_rfl) (by kernel_rfl) (by kernel_rfl) (fun _ _ _ h => h) (Or.inl ⟨by rfl, fun W _ => by go_simp; try with_reducible rfl⟩) hS ?_
  simp only [Act.put, List.getElem_toArray, List.getElem_cons_zero, List.getElem_cons_succ, List.setIfInBounds_toArray, List.set_cons_succ, List.set_cons_zero]
  refine wpAnyH_take (i := 47) (v := .bool true) rfl (by kernel_rfl) (by kernel_rfl) (by kernel_rfl) (fun _ _ _ h => h) (Or.inl ⟨by rfl, fun W _ => by go_simp; try with_reducible rfl⟩) hS ?_
  simp only [Act.put, List.getElem_toArray, List.getElem_cons_zero, List.getElem_cons_succ, List.setIfInBounds_toArray, List.set_cons_succ, List.set_cons_zero]
  refine wpAnyH_take (i := 48) (v := .bool true) rfl (by kernel_rfl) (by kernel_rfl) (by kernel_rfl) (fun _ _ _ h => h) (Or.inl ⟨by rfl, fun W _ => by go_simp; try with_reducible rfl⟩) hS ?_
  simp only [Act.put, List.getElem_toArray, List.getElem_cons_zero, List.getElem_cons_succ, List.setIfInBounds_toArray, List.set_cons_succ, List.set_cons_zero]
  refine wpAnyH_take (i := 49) (v := .bool true) rfl (by kernel_rfl) (by kernel_rfl) (by kernel_rfl) (fun _ _ _ h => h) (Or.inl ⟨by rfl, fun W _ => by go_simp; try with_reducible rfl⟩) hS ?_
  simp only [Act.put, List.getElem_toArray, List.getElem_cons_zero, List.getElem_cons_succ, List.setIfInBounds_toArray, List.set_cons_succ, List.set_cons_zero]
  refine wpAnyH_take (i := 50) (v := .slice Au me cu) rfl (by kernel_rfl) (by kernel_rfl) (by kernel_rfl) (fun _ _ _ h => h) (Or.inl ⟨by rfl, fun W _ => by go_simp; try with_reducible rfl⟩) hS ?_
  simp only [Act.put, List.getElem_toArray, List.getElem_cons_zero, List.getElem_cons_succ, List.setIfInBounds_toArray, List.set_cons_succ, List.set_cons_zero]
  refine wpAnyH_take (i := 51) (v := .slice Av me cv) rfl (by kernel_rfl) (by kernel_rfl) (by kernel_rfl) (fun _ _ _ h => h) (Or.inl ⟨by rfl, fun W _ => by go_simp; try with_reducible rfl⟩) hS ?_
  simp only [Act.put, List.getElem_toArray, List.getElem_cons_zero, List.getElem_cons_succ, List.setIfInBounds_toArray, List.set_cons_succ, List.set_cons_zero]
  refine wpAnyH_ready (rs := [52]) (by kernel_rfl) (by simp) ?_
  refine AllReadyH.cons rfl (fun Kq hK => ?_) AllReadyH.nil
  go_simp
  with_reducible refine (CE.out _ (RU.out.below hS.below |>.more hS.below.size) (RV.out.below hS.below |>.more hS.below.size)).mono ?_
  rintro e x13 ⟨rfl, b13⟩
  refine hK.out _ _ (hS.call b13) (fun hS => ?_)
  clear hK Kq b13
  refine wpAnyH_take (i := 53) (v := .bool true) rfl (by kernel_rfl) (by kernel_rfl) (by kernel_rfl) (fun _ _ _ h => h) (Or.inl ⟨by rfl, fun W _ => by go_simp; try with_reducible rfl⟩) hS ?_
  simp only [Act.put, List.getElem_toArray, List.getElem_cons_zero, List.getElem_cons_succ, List.setIfInBounds_toArray, List.set_cons_succ, List.set_cons_zero]
  refine wpAnyH_take (i := 54) (v := .bool true) rfl (by kernel_rfl) (by kernel_rfl) (by kernel_rfl) (fun _ _ _ h => h) (Or.inl ⟨by rfl, fun W _ => by go_simp; try with_reducible rfl⟩) hS ?_
  simp only [Act.put, List.getElem_toArray, List.getElem_cons_zero, List.getElem_cons_succ, List.setIfInBounds_toArray, List.set_cons_succ, List.set_cons_zero]
  refine wpAnyH_take (i := 55) (v := .bool f2) rfl (by kernel_rfl) (by kernel_rfl) (by kernel_rfl) (fun _ _ _ h => h) (Or.inl ⟨by rfl, fun W _ => by go_simp; try with_reducible rfl⟩) hS ?_
  simp only [Act.put, List.getElem_toArray, List.getElem_cons_zero, List.getElem_cons_succ, List.setIfInBounds_toArray, List.set_cons_succ, List.set_cons_zero]
  refine wpAnyH_take (i := 56) (v := .bool f2) rfl (by kernel_rfl) (by kernel_rfl) (by kernel_rfl) (fun _ _ _ h => h) (Or.inl ⟨by rfl, fun W _ => by go_simp; try with_reducible rfl⟩) hS ?_
  simp only [Act.put, List.getElem_toArray, List.getElem_cons_zero, List.getElem_cons_succ, List.setIfInBounds_toArray, List.set_cons_succ, List.set_cons_zero]
  refine wpAnyH_take (i := 57) (v := .bool true) rfl (by kernel_rfl) (by kernel_rfl) (by kernel_rfl) (fun _ _ _ h => h) (Or.inl ⟨by rfl, fun W _ => by go_simp; try with_reducible rfl⟩) hS ?_
  simp only [Act.put, List.getElem_toArray, List.getElem_cons_zero, List.getElem_cons_succ, List.setIfInBounds_toArray, List.set_cons_succ, List.set_cons_zero]
  refine wpAnyH_take (i := 58) (v := .bool true) rfl (by kernel_rfl) (by kernel_rfl) (by kernel_rfl) (fun _ _ _ h => h) (Or.inl ⟨by rfl, fun W _ => by go_simp; try with_reducible rfl⟩) hS ?_
  simp only [Act.put, List.getElem_toArray, List.getElem_cons_zero, List.getElem_cons_succ, List.setIfInBounds_toArray, List.set_cons_succ, List.set_cons_zero]
  refine wpAnyH_ready (rs := [59]) (by kernel_rfl) (by simp) ?_
  refine AllReadyH.cons rfl (fun Kq hK => ?_) AllReadyH.nil
  go_simp
  refine hK.out _ _ hS (fun hS => ?_)
  clear hK Kq
  refine wpAnyH_done (by kernel_rfl) ?_ _
  go_wp2_with fail
  go_ret
  exact ⟨rfl, HB6.out.trans (hS.below.mono HB6.out.size)⟩
theorem ktells_walk (a b : List UInt8) (A : Option Addr) (c : Nat) (l : List K32) (A' : Option Addr) (c' : Nat) (m : List K32) (w : World) (ha : a.length = 32) (hb : b.length = 32) (h : RowIn encK 32 w w.heap.size A c l) (h' : RowIn encK 32 w w.heap.size A' c' m) :
    Calls Try.prog 3 #[.agg (bytesA a), .agg (bytesA b), .slice A l.length c, .slice A' m.length c'] w fun e w' => e = .returned (.bool true) ∧ Below w.heap.size w w' := by
  obtain ⟨a, rfl⟩ : ∃ q : K32, q.1 = a := ⟨⟨a, ha⟩, rfl⟩
  obtain ⟨b, rfl⟩ : ∃ q : K32, q.1 = b := ⟨⟨b, hb⟩, rfl⟩
  have B0 : Below w.heap.size w ((w.alloc (.cells (bytesA a.1) 23)).alloc (.cells (bytesA b.1) 23)) := ((Below.refl _ _).alloc (Nat.le_refl _) _).alloc (by simp) _
  by_cases hl : l.length ≤ 200
  · by_cases hm : m.length ≤ 200
    · exact ktells_small a b A c l A' c' m hl hm w h h'
    · obtain ⟨n, hn⟩ : ∃ n, l.length = n := ⟨_, rfl⟩
      obtain ⟨n', hn'⟩ : ∃ n, m.length = n := ⟨_, rfl⟩
      rw [hn] at hl
      rw [hn'] at hm
      rw [hn, hn']
      clear h h' hn hn'
      have d0 : decide ((200 : Int) < (n : Int)) = false := decide_eq_false (by omega)
      have d1 : decide ((200 : Int) < (n' : Int)) = true := decide_eq_true (by omega)
      go_enter Try.func3, Try.ntmps3
      go_wp2_with (go_at_call 10; refine (shown_any _).mono ?_; rintro e w1 ⟨rfl, b1⟩)
      go_ret
      exact ⟨rfl, B0.trans (b1.mono B0.size)⟩
  · obtain ⟨n, hn⟩ : ∃ n, l.length = n := ⟨_, rfl⟩
    rw [hn] at hl ⊢
    clear h h' hn
    obtain ⟨n', hn'⟩ : ∃ n, m.length = n := ⟨_, rfl⟩
    rw [hn']
    clear hn'
    have d0 : decide ((200 : Int) < (n : Int)) = true := decide_eq_true (by omega)
    go_enter Try.func3, Try.ntmps3
    go_wp2_with (go_at_call 10; refine (shown_any _).mono ?_; rintro e w1 ⟨rfl, b1⟩)
    go_ret
    exact ⟨rfl, B0.trans (b1.mono B0.size)⟩
end Go.Proofs.Ytdojjddobepccaa
