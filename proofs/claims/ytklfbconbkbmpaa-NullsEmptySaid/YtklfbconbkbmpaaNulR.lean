/- The document's Free, Spend, Undo of nullifiers; what is assumed of the project's; the law's shown. -/
import Derived.Test.YtklfbconbkbmpaaNulP
import Derived.Test.YtklfbconbkbmpaaKeyF
import Derived.Test.YtklfbconbkbmpaaKeyT
import Derived.Test.YtklfbconbkbmpaaCellB
namespace Go.Proofs.Ytklfbconbkbmpaa
open Go.RowKit
set_option maxRecDepth 20000 in
theorem rFree_n (A A' : Option Addr) (c c' : Nat) (s l : List K32) (w : World) (hs : RowIn encK 32 w w.heap.size A c s) (hl : RowIn encK 32 w w.heap.size A' c' l) (hsn : s.length ≤ 100000) (hln : l.length ≤ 100000) :
    Calls Try.prog 14 #[.slice A s.length c, .slice A' l.length c'] w fun e w' => e = .returned (.bool (freeN s l)) ∧ Below w.heap.size w w' := by
  have HM := Lib.hid (refMeet_any A c s A' c' l w.heap.size hsn hln w (Nat.le_refl _) hs hl)
  have HD := Lib.hid (fun W (hb : Below w.heap.size w W) => refDistinct_any A' c' l w.heap.size hln W hb.size (hl.below hb))
  obtain ⟨r, hr⟩ : ∃ r, freeN s l = r := ⟨_, rfl⟩
  rw [hr]
  unfold freeN at hr
  obtain ⟨q1, hq1⟩ : ∃ q, meetF s l = q := ⟨_, rfl⟩
  obtain ⟨q2, hq2⟩ : ∃ q, decide l.Nodup = q := ⟨_, rfl⟩
  rw [hq1] at HM hr
  rw [hq2] at hr
  have HQ := Lib.hid hq2
  have HR := Lib.hid hr
  clear hr hq1 hq2 hs hl
  go_enter Try.func14, Try.ntmps14
  go_wp2_with fail
  refine HM.out.mono ?_
  rintro e w1 ⟨rfl, b1⟩
  have B1 := Lib.hid b1
  clear b1
  cases q1 with
  | true =>
    go_wp2_with fail
    go_ret
    exact ⟨by rw [← HR.out]; rfl, B1.out⟩
  | false =>
    go_wp2_with fail
    refine (HD.out _ B1.out).mono ?_
    rintro e w2 ⟨rfl, b2⟩
    rw [HQ.out]
    have B2 := Lib.hid (B1.out.trans (b2.mono B1.out.size))
    clear b2
    go_wp2_with fail
    go_ret
    exact ⟨by rw [← HR.out]; rfl, B2.out⟩
set_option maxRecDepth 20000 in
set_option maxHeartbeats 2000000 in
theorem rSpend_n (A A' : Option Addr) (c c' : Nat) (s l : List K32) (w : World) (hs : RowIn encK 32 w w.heap.size A c s) (hl : RowIn encK 32 w w.heap.size A' c' l) (hsn : s.length ≤ 1000) (hln : l.length ≤ 1000) :
    Calls Try.prog 9 #[.slice A s.length c, .slice A' l.length c'] w fun e w' => ∃ A1 c1, e = .returned (.tuple #[.slice A1 (spendN s l).1.length c1, .int .i64 (spendN s l).2]) ∧ RowIn encK 32 w' w'.heap.size A1 c1 (spendN s l).1 ∧ Below w.heap.size w w' := by
  have HF := Lib.hid (rFree_n A A' c c' s l w hs hl (by omega) (by omega))
  have HS := Lib.hid hs
  have HL := Lib.hid hl
  have HN := Lib.hid (And.intro hsn hln)
  have ho := spendN_or s l
  obtain ⟨X, hX⟩ : ∃ X, spendN s l = X := ⟨_, rfl⟩
  rw [hX] at ho ⊢
  have HO := Lib.hid ho
  obtain ⟨q, hq⟩ : ∃ q, freeN s l = q := ⟨_, rfl⟩
  rw [hq] at HF
  have HQ := Lib.hid hq
  clear ho hX hq hs hl
  go_enter Try.func9, Try.ntmps9
  go_wp2_with fail
  refine HF.out.mono ?_
  rintro e w1 ⟨rfl, b1⟩
  have B1 := Lib.hid b1
  clear b1
  cases q with
  | false =>
    have hx : X = ([], 161) := by rcases HO.out with ⟨h, _⟩ | ⟨_, h⟩; · rw [HQ.out] at h; cases h
                                  · exact h
    subst hx
    go_wp2_with fail
    go_ret2
    exact ⟨none, 0, rfl, RowIn.nil (Nat.zero_le _), B1.out⟩
  | true =>
    have hx : X = (addL s l, 0) := by rcases HO.out with ⟨_, h⟩ | ⟨h, _⟩; · exact h
                                      · rw [HQ.out] at h; cases h
    subst hx
    have R1 := Lib.hid (show RowIn encK 32 w1 w1.heap.size A c (addL s (l.take 0)) from (HS.out.below B1.out).more B1.out.size)
    go_wp2_with fail
    go_loopw [0, 6] (fun so si wr => ∃ (j : Nat) (A1 : Option Addr) (c1 : Nat), so = .slice A1 (addL s (l.take j)).length c1 ∧ si = .int .i64 j ∧ j ≤ l.length ∧ Hid (RowIn encK 32 wr wr.heap.size A1 c1 (addL s (l.take j))) ∧ Hid (Below w.heap.size w wr)) (fun _ si _ => l.length - (intOf si).toNat)
    case atStart => exact ⟨0, A, c, rfl, rfl, by omega, R1, B1⟩
    case round =>
      clear R1 B1
      obtain ⟨j, A1, c1, rfl, rfl, hj, R2, B2⟩ := hrel
      by_cases hlt : j < l.length
      · have hd : decide ((j : Int) < (l.length : Int)) = true := by simp; omega
        obtain ⟨g, o, hA, hg, hc⟩ := (HL.out.below B2.out).at encK_len hlt
        obtain ⟨x, hx⟩ : ∃ x, l[j]'hlt = x := ⟨_, rfl⟩
        rw [hx] at hc
        subst hA
        have HX := Lib.hid hc
        have hi0 : (0 : Int) ≤ (j : Int) := by omega
        have hi1 : (j : Int) < (l.length : Int) := by omega
        have hln : l.length ≤ 1000 := HN.out.2
        have HT := Lib.hid (show insK x (addL s (l.take j)) = addL s (l.take (j + 1)) by rw [List.take_succ_eq_append_getElem hlt, hx, addL_snoc])
        have HJ := Lib.hid (show j + 1 ≤ l.length ∧ j < l.length from ⟨by omega, hlt⟩)
        have HLE := Lib.hid (show (addL s (l.take j)).length ≤ 100000 by have h1 := addL_le (l.take j) s; have h2 := HN.out; rw [List.length_take] at h1; omega)
        clear hx hc hg
        go_wp2_with ((with_reducible refine at_load 23 ?_); refine tyKc.wpList_load rfl (.tmp 23) rfl g (o + j * 32) rfl x HX.out ?_)
        have HI := refInsert_any A1 c1 (addL s (l.take j)) x HLE.out _ R2.out
        rw [← encK_arr] at HI
        refine HI.mono ?_
        rintro e w3 ⟨A3, c3, rfl, r3, b3⟩
        rw [HT.out] at r3 ⊢
        have R3 := Lib.hid r3
        have B3 := Lib.hid (B2.out.trans (b3.mono B2.out.size))
        clear r3 b3 HI R2 B2 HX
        go_wp2_with fail
        go_roundw
        case rel => exact ⟨j + 1, A3, c3, rfl, by go_num, HJ.out.1, R3, B3⟩
        case measure => have := HJ.out; simp [intOf]; omega
      · have hd : decide ((j : Int) < (l.length : Int)) = false := by simp; omega
        have hall : l.take j = l := List.take_of_length_le (by omega)
        rw [hall] at R2
        rw [hall]
        go_wp2_with fail
        go_ret2
        exact ⟨A1, c1, rfl, R2.out, B2.out⟩
set_option maxRecDepth 20000 in
set_option maxHeartbeats 2000000 in
theorem rUndo_n (A A' : Option Addr) (c c' : Nat) (s l : List K32) (w : World) (hs : RowIn encK 32 w w.heap.size A c s) (hl : RowIn encK 32 w w.heap.size A' c' l) (hsn : s.length ≤ 1000) (hln : l.length ≤ 1000) :
    Calls Try.prog 11 #[.slice A s.length c, .slice A' l.length c'] w fun e w' => ∃ A1 c1, e = .returned (.tuple #[.slice A1 (undoN s l).1.length c1, .int .i64 (undoN s l).2]) ∧ RowIn encK 32 w' w'.heap.size A1 c1 (undoN s l).1 ∧ Below w.heap.size w w' := by
  have HL := Lib.hid hl
  have HN := Lib.hid (And.intro hsn hln)
  have HS := Lib.hid hs
  obtain ⟨X, hX⟩ : ∃ X, undoN s l = X := ⟨_, rfl⟩
  rw [hX]
  have HX := Lib.hid (show undoN s (l.drop 0) = X from hX)
  clear hX hs hl
  go_enter Try.func11, Try.ntmps11
  go_wp2_with fail
  go_loopw [0, 6] (fun so si wr => ∃ (j : Nat) (A1 : Option Addr) (c1 : Nat) (s1 : List K32), so = .slice A1 s1.length c1 ∧ si = .int .i64 j ∧ j ≤ l.length ∧ Hid (s1.length ≤ 1000 ∧ undoN s1 (l.drop j) = X) ∧ Hid (RowIn encK 32 wr wr.heap.size A1 c1 s1) ∧ Hid (Below w.heap.size w wr)) (fun _ si _ => l.length - (intOf si).toNat)
  case atStart => exact ⟨0, A, c, s, rfl, rfl, by omega, Lib.hid ⟨HN.out.1, HX.out⟩, HS, Lib.hid (Below.refl _ _)⟩
  case round =>
    obtain ⟨j, A1, c1, s1, rfl, rfl, hj, HU, R2, B2⟩ := hrel
    by_cases hlt : j < l.length
    · have hd : decide ((j : Int) < (l.length : Int)) = true := by simp; omega
      obtain ⟨g, o, hA, hg, hc⟩ := (HL.out.below B2.out).at encK_len hlt
      obtain ⟨x, hx⟩ : ∃ x, l[j]'hlt = x := ⟨_, rfl⟩
      rw [hx] at hc
      subst hA
      have HC := Lib.hid hc
      have hi0 : (0 : Int) ≤ (j : Int) := by omega
      have hi1 : (j : Int) < (l.length : Int) := by omega
      have hln : l.length ≤ 1000 := HN.out.2
      have HD := Lib.hid (show l.drop j = x :: l.drop (j + 1) by rw [List.drop_eq_getElem_cons hlt, hx])
      have HJ := Lib.hid (show j + 1 ≤ l.length ∧ j < l.length from ⟨by omega, hlt⟩)
      clear hx hc hg
      go_wp2_with ((with_reducible refine at_load 19 ?_); refine tyKc.wpList_load rfl (.tmp 19) rfl g (o + j * 32) rfl x HC.out ?_)
      have HI := refRemove_any A1 c1 s1 x _ (by have := HU.out.1; omega) _ (Nat.le_refl _) R2.out
      rw [← encK_arr] at HI
      refine HI.mono ?_
      rintro e w3 ⟨v, rfl, p3, b3⟩
      obtain ⟨A3, c3, rfl, r3⟩ := RowIn.of_own encK_len p3
      have R3 := Lib.hid r3
      have B3 := Lib.hid (B2.out.trans (b3.mono B2.out.size))
      clear r3 p3 b3 HI R2 B2 HC
      by_cases hm : x ∈ s1
      · have HE := Lib.hid (show (s1.erase x).length ≤ 1000 ∧ undoN (s1.erase x) (l.drop (j + 1)) = X from ⟨Nat.le_trans (List.length_erase_le) HU.out.1, by have := HU.out.2; rw [HD.out] at this; unfold undoN at this; rwa [if_pos hm] at this⟩)
        rw [decide_eq_true hm]
        clear hm
        go_wp2_with fail
        go_roundw
        case rel => exact ⟨j + 1, A3, c3, s1.erase x, rfl, by go_num, HJ.out.1, HE, R3, B3⟩
        case measure => have := HJ.out; simp [intOf]; omega
      · have hX3 : X = ([], 3) := by have := HU.out.2; rw [HD.out] at this; unfold undoN at this; rw [if_neg hm] at this; exact this.symm
        subst hX3
        rw [decide_eq_false hm]
        clear hm
        go_wp2_with fail
        go_ret2
        exact ⟨none, 0, rfl, RowIn.nil (Nat.zero_le _), B3.out⟩
    · have hd : decide ((j : Int) < (l.length : Int)) = false := by simp; omega
      have hX0 : X = (s1, 0) := by have := HU.out.2; rw [List.drop_of_length_le (by omega)] at this; exact this.symm
      subst hX0
      go_wp2_with fail
      go_ret2
      exact ⟨A1, c1, rfl, R2.out, B2.out⟩
def FreeOk : Prop := ∀ (A A' : Option Addr) (c c' : Nat) (s l : List K32) (w : World), RowIn encK 32 w w.heap.size A c s → RowIn encK 32 w w.heap.size A' c' l → s.length ≤ 700 → l.length ≤ 700 →
  Calls Try.prog 13 #[.slice A s.length c, .slice A' l.length c'] w fun e w' => e = .returned (.bool (freeN s l)) ∧ Below w.heap.size w w'
def SpendOk : Prop := ∀ (A A' : Option Addr) (c c' : Nat) (s l : List K32) (w : World), RowIn encK 32 w w.heap.size A c s → RowIn encK 32 w w.heap.size A' c' l → s.length ≤ 700 → l.length ≤ 700 →
  Calls Try.prog 8 #[.slice A s.length c, .slice A' l.length c'] w fun e w' => ∃ A1 c1, e = .returned (.tuple #[.slice A1 (spendN s l).1.length c1, .int .i64 (spendN s l).2]) ∧ RowIn encK 32 w' w'.heap.size A1 c1 (spendN s l).1 ∧ Below w.heap.size w w'
def UnspendOk : Prop := ∀ (A A' : Option Addr) (c c' : Nat) (s l : List K32) (w : World), RowIn encK 32 w w.heap.size A c s → RowIn encK 32 w w.heap.size A' c' l → s.length ≤ 700 → l.length ≤ 700 →
  Calls Try.prog 10 #[.slice A s.length c, .slice A' l.length c'] w fun e w' => ∃ A1 c1, e = .returned (.tuple #[.slice A1 (undoN s l).1.length c1, .int .i64 (undoN s l).2]) ∧ RowIn encK 32 w' w'.heap.size A1 c1 (undoN s l).1 ∧ Below w.heap.size w w'
def nk1 : K32 := ⟨1 :: List.replicate 31 0, by simp⟩
theorem spend_shown1 : spendN [] [nk1] = ([nk1], 0) := by decide +kernel
theorem spend_shown2 : spendN [nk1] [nk1] = ([], 161) := by decide +kernel
theorem nzsK : ((Try.prog.info? 29).bind (·.zero)).isSome = true := by kernel_rfl
theorem key_row {w : World} {g n : Nat} {l : List K32} (h : Blk w g 29 (cellsOf encK l).toArray) (hl : l.length ≤ n) (hn : n ≤ 1000) : RowIn encK 32 w w.heap.size (some ⟨g, 0, none⟩) n l :=
  ⟨hl, by unfold maxLen; omega, fun _ => ⟨_, _, rfl, h.lt, RowC.of_blk h⟩⟩
set_option maxRecDepth 20000 in
set_option maxHeartbeats 2000000 in
theorem nshown_any (HSP : SpendOk) (w : World) :
    Calls Try.prog 7 #[] w fun e w' => e = .returned (.bool true) ∧ Below w.heap.size w w' := by
  unfold SpendOk at HSP
  have HP := Lib.hid HSP
  clear HSP
  go_enter Try.func7, Try.ntmps7
  go_wp2_with (first
    | ((with_reducible refine at_build 6 ?_); refine wpList_built rfl 29 #[(0, .const (.int .u8 1))] rfl (encK nk1).toArray (by kernel_rfl) ?_)
    | ((with_reducible refine at_buildSlice 7 ?_); refine tyKy.wpList_build rfl nzsK 1 _ rfl [nk1] rfl (by omega) (by omega) (by kernel_rfl) ?_))
  refine (HP.out none _ 0 1 [] [nk1] _ (RowIn.nil (Nat.zero_le _)) (key_row (Blk.new w 29 _) (by decide) (by decide)) (by decide) (by decide)).mono ?_
  rw [spend_shown1]
  rintro e w1 ⟨A1, c1, rfl, r1, b1⟩
  have R1 := Lib.hid (show RowIn encK 32 w1 w1.heap.size A1 c1 [nk1] from r1)
  have B1 := Lib.hid (((Below.refl w.heap.size w).alloc (Nat.le_refl _) (.cells (cellsOf encK [nk1]).toArray 29)).trans (b1.mono (by simp)))
  clear r1 b1
  go_wp2_with (first
    | ((with_reducible refine at_build 13 ?_); refine wpList_built rfl 29 #[(0, .const (.int .u8 1))] rfl (encK nk1).toArray (by kernel_rfl) ?_)
    | ((with_reducible refine at_buildSlice 14 ?_); refine tyKy.wpList_build rfl nzsK 1 _ rfl [nk1] rfl (by omega) (by omega) (by kernel_rfl) ?_))
  refine (HP.out A1 _ c1 1 [nk1] [nk1] _ ((R1.out.below ((Below.refl _ _).alloc (Nat.le_refl _) _)).more (by simp)) (key_row (Blk.new w1 29 _) (by decide) (by decide)) (by decide) (by decide)).mono ?_
  rw [spend_shown2]
  rintro e w2 ⟨A2, c2, rfl, _, b2⟩
  have B2 := Lib.hid ((B1.out.trans (((Below.refl w1.heap.size w1).alloc (Nat.le_refl _) (.cells (cellsOf encK [nk1]).toArray 29)).mono B1.out.size)).trans (b2.mono (by have := B1.out.size; simp; omega)))
  clear b2
  go_wp2_with fail
  go_ret
  exact ⟨rfl, B2.out⟩
/-- rows of keys that lie so -/
def KRows (W : World) (L : List (Option Addr × Nat × List K32)) : Prop := ∀ x ∈ L, RowIn encK 32 W W.heap.size x.1 x.2.1 x.2.2
section
variable {W W' : World} {L : List (Option Addr × Nat × List K32)}
theorem KRows.on (h : KRows W L) (b : Below W.heap.size W W') : KRows W' L := fun x hx => ((h x hx).below b).more b.size
theorem KRows.cons {A : Option Addr} {c : Nat} {l : List K32} (h : KRows W L) (r : RowIn encK 32 W W.heap.size A c l) : KRows W ((A, c, l) :: L) := fun x hx => by
  rcases List.mem_cons.1 hx with rfl | hx
  · exact r
  · exact h x hx
theorem KRows.at (h : KRows W L) {A : Option Addr} {c : Nat} {l : List K32} (hx : (A, c, l) ∈ L) : RowIn encK 32 W W.heap.size A c l := h _ hx
theorem KRows.nil (W : World) : KRows W [] := fun x hx => by cases hx
end
end Go.Proofs.Ytklfbconbkbmpaa
