/- Decode's steps: take, at its three types; closures over captured variables; readTxs. Written by genDc.py. -/
import Derived.Test.YthpnmmilioonhaaDoorBkO
import Derived.Test.YthpnmmilioonhaaDoorBkL
import Derived.Test.YthpnmmilioonhaaDoorBkD
import Derived.Test.YthpnmmilioonhaaDoorTxAllB
import Derived.Test.YthpnmmilioonhaaDoorBkEn
namespace Go.Proofs.YthpnmmilioonhaaDoor
open Go.RowKit
abbrev Sb (w : World) (g : Nat) (l : List UInt8) : Prop := Blk w g 9 #[.string ⟨l.toArray⟩]
abbrev Nb (w : World) (g : Nat) (n : Nat) : Prop := Blk w g 49 #[.int .u64 n]
abbrev Bb (w : World) (g : Nat) (b : BkA) : Prop := Blk w g 27 b.cells.toArray
/-- codec's Key, as an answer or an error -/
theorem cKey_r (l : List UInt8) (hs : l.length ≤ 1000000) (w : World) :
    Calls Tryd.prog 41 #[.string ⟨l.toArray⟩] w (EndG vky (vky zeroKey) w (keyR l)) := by
  refine (ckey_any ⟨l.toArray⟩ (by rw [mkb_size]; exact hs) w).mono ?_
  rintro e w' ⟨rfl, hb⟩
  refine ⟨hb, ?_⟩
  rcases keyR_f l with ⟨hf, hg⟩ | ⟨k, r, hf, hg⟩
  · rw [hg]
    show Ending.returned (keyV (keyF l)) = _
    rw [hf]
    unfold keyV vky
    rw [encK_arr]
    rfl
  · rw [hg]
    show Ending.returned (keyV (keyF l)) = _
    rw [hf]
    unfold keyV vky
    rw [encK_arr]
theorem cGet_r (l : List UInt8) (hs : l.length ≤ 1000000) (wd : Nat) (h1 : 1 ≤ wd) (h8 : wd ≤ 8) (w : World) :
    Calls Tryd.prog 70 #[.string ⟨l.toArray⟩, .int .i64 wd] w (EndG vu64 (vu64 0) w (getR wd l)) := by
  refine (get_any ⟨l.toArray⟩ (by rw [mkb_size]; exact hs) wd w).mono ?_
  rintro e w' ⟨rfl, hb⟩
  refine ⟨hb, ?_⟩
  rcases getR_f wd h1 h8 l with ⟨_, hf, hg⟩ | ⟨_, hf, hg⟩
  · rw [hg]
    show Ending.returned (getV (getF l wd)) = _
    rw [hf]
    rfl
  · rw [hg]
    show Ending.returned (getV (getF l wd)) = _
    rw [hf]
    rfl
theorem cRead_r (l : List UInt8) (hs : l.length ≤ 1000000) (w : World) :
    Calls Tryd.prog 47 #[.string ⟨l.toArray⟩] w (EndG vu64 (vu64 0) w (readR l)) := by
  refine (read_any ⟨l.toArray⟩ (by rw [mkb_size]; exact hs) w).mono ?_
  rintro e w' ⟨rfl, hb⟩
  refine ⟨hb, ?_⟩
  rcases readR_f l with ⟨er, _, hf, hg⟩ | ⟨n, r, hf, hg, _⟩
  · rw [hg]
    show Ending.returned (getV (readF l)) = _
    rw [hf]
    rfl
  · rw [hg]
    show Ending.returned (getV (readF l)) = _
    rw [hf]
    rfl
set_option maxRecDepth 20000 in
theorem takeK1_r (r : List UInt8) (hs : r.length ≤ 1000000) (bk : BkA) (g gb : Nat) (hne : g ≠ gb) (w : World) (hr : Sb w g r) (hb : Bb w gb bk) :
    Calls Tryd.prog 40 #[.pointer (some ⟨gb, 0, none⟩), .pointer (some ⟨g, 0, none⟩), .func (.func 41) #[] #[]] w fun e w' => PastL [g, gb] w w' ∧ match keyR r with
      | .ok (k, r') => e = .returned (.int .i64 0) ∧ Sb w' g r' ∧ Bb w' gb { bk with prev := k }
      | .error er => e = .returned (.int .i64 er) := by
  have hc := cKey_r r hs w
  have cs := hr.cell 0
  have HN := Lib.hid hne
  have HR := Lib.hid hr
  have HB := Lib.hid hb
  clear hr hb hne
  cases hq : keyR r with
  | error er =>
    have HC := Lib.hid (hq ▸ hc)
    clear hc hq
    go_enter Tryd.func40, Tryd.ntmps40
    go_wp2_with fail
    refine HC.out.mono ?_
    rintro e w1 ⟨b1, rfl⟩
    have KS := Lib.hid (below_blk b1 HR.out HR.out.lt)
    have KB := Lib.hid (below_blk b1 HB.out HB.out.lt)
    have PP := Lib.hid (PastL.of_below (L := [g, gb]) b1)
    clear b1 HC cs HR HB
    go_wp2_with (first
      | ((with_reducible refine at_store 18 15 ?_); refine tyKc.wpList_storeAt rfl (.tmp 18) (.tmp 15) rfl rfl gb 0 zeroKey rfl rfl 27 _ KB.out (by rw [BkA.len]; omega) ?_; intro v1 ox bx; rw [BkA.set_prev] at bx
         have K1 := Lib.hid bx
         have S1 := Lib.hid (ox.blk KS.out (by simpa using HN.out))
         have P1 := Lib.hid (PP.out.only ox (.inl (by simp)))
         clear ox bx)
      | ((with_reducible refine at_store 19 16 ?_); refine wpList_store_blk rfl 9 (.tmp 19) (.tmp 16) rfl rfl g (.string ⟨([] : List UInt8).toArray⟩) rfl rfl rfl 9 _ S1.out (by kernel_rfl) ?_; intro v2 oy bY
         have S2 := Lib.hid bY
         have K2 := Lib.hid (oy.blk K1.out (by simpa using fun e => HN.out e.symm))
         have P2 := Lib.hid (P1.out.only oy (.inl (by simp)))
         clear oy bY))
    go_ret
    exact ⟨P2.out, rfl⟩
  | ok x =>
    obtain ⟨k, r'⟩ := x
    have HC := Lib.hid (hq ▸ hc)
    clear hc hq
    go_enter Tryd.func40, Tryd.ntmps40
    go_wp2_with fail
    refine HC.out.mono ?_
    rintro e w1 ⟨b1, rfl⟩
    have KS := Lib.hid (below_blk b1 HR.out HR.out.lt)
    have KB := Lib.hid (below_blk b1 HB.out HB.out.lt)
    have PP := Lib.hid (PastL.of_below (L := [g, gb]) b1)
    clear b1 HC cs HR HB
    go_wp2_with (first
      | ((with_reducible refine at_store 18 15 ?_); refine tyKc.wpList_storeAt rfl (.tmp 18) (.tmp 15) rfl rfl gb 0 k rfl rfl 27 _ KB.out (by rw [BkA.len]; omega) ?_; intro v1 ox bx; rw [BkA.set_prev] at bx
         have K1 := Lib.hid bx
         have S1 := Lib.hid (ox.blk KS.out (by simpa using HN.out))
         have P1 := Lib.hid (PP.out.only ox (.inl (by simp)))
         clear ox bx)
      | ((with_reducible refine at_store 19 16 ?_); refine wpList_store_blk rfl 9 (.tmp 19) (.tmp 16) rfl rfl g (.string ⟨r'.toArray⟩) rfl rfl rfl 9 _ S1.out (by kernel_rfl) ?_; intro v2 oy bY
         have S2 := Lib.hid bY
         have K2 := Lib.hid (oy.blk K1.out (by simpa using fun e => HN.out e.symm))
         have P2 := Lib.hid (P1.out.only oy (.inl (by simp)))
         clear oy bY))
    go_ret
    exact ⟨P2.out, rfl, S2.out, K2.out⟩
set_option maxRecDepth 20000 in
theorem step1_r (r : List UInt8) (hs : r.length ≤ 1000000) (bk : BkA) (g gb : Nat) (hne : g ≠ gb) (w : World) (hr : Sb w g r) (hb : Bb w gb bk) :
    Calls Tryd.prog 39 #[.pointer (some ⟨gb, 0, none⟩), .pointer (some ⟨g, 0, none⟩)] w fun e w' => PastL [g, gb] w w' ∧ match keyR r with
      | .ok (k, r') => e = .returned (.int .i64 0) ∧ Sb w' g r' ∧ Bb w' gb { bk with prev := k }
      | .error er => e = .returned (.int .i64 er) := by
  have hc := takeK1_r r hs bk g gb hne w hr hb
  have HC := Lib.hid hc
  clear hc hr hb
  cases hq : keyR r with
  | error er =>
    rw [hq] at HC
    go_enter Tryd.func39, Tryd.ntmps39
    go_wp2_with fail
    refine HC.out.mono ?_
    rintro e w1 ⟨p1, h1⟩
    obtain rfl : e = .returned (.int .i64 er) := h1
    go_wp2_with fail
    go_ret
    exact ⟨p1, rfl⟩
  | ok x =>
    obtain ⟨k, r'⟩ := x
    rw [hq] at HC
    go_enter Tryd.func39, Tryd.ntmps39
    go_wp2_with fail
    refine HC.out.mono ?_
    rintro e w1 ⟨p1, h1⟩
    obtain ⟨rfl, s1, b1⟩ := (h1 : _ ∧ _ ∧ _)
    have S1 := Lib.hid s1
    have B1 := Lib.hid b1
    clear s1 b1
    go_wp2_with fail
    go_ret
    exact ⟨p1, rfl, S1.out, B1.out⟩
set_option maxRecDepth 20000 in
theorem takeK2_r (r : List UInt8) (hs : r.length ≤ 1000000) (bk : BkA) (g gb : Nat) (hne : g ≠ gb) (w : World) (hr : Sb w g r) (hb : Bb w gb bk) :
    Calls Tryd.prog 40 #[.pointer (some ⟨gb, 32, none⟩), .pointer (some ⟨g, 0, none⟩), .func (.func 41) #[] #[]] w fun e w' => PastL [g, gb] w w' ∧ match keyR r with
      | .ok (k, r') => e = .returned (.int .i64 0) ∧ Sb w' g r' ∧ Bb w' gb { bk with root := k }
      | .error er => e = .returned (.int .i64 er) := by
  have hc := cKey_r r hs w
  have cs := hr.cell 0
  have HN := Lib.hid hne
  have HR := Lib.hid hr
  have HB := Lib.hid hb
  clear hr hb hne
  cases hq : keyR r with
  | error er =>
    have HC := Lib.hid (hq ▸ hc)
    clear hc hq
    go_enter Tryd.func40, Tryd.ntmps40
    go_wp2_with fail
    refine HC.out.mono ?_
    rintro e w1 ⟨b1, rfl⟩
    have KS := Lib.hid (below_blk b1 HR.out HR.out.lt)
    have KB := Lib.hid (below_blk b1 HB.out HB.out.lt)
    have PP := Lib.hid (PastL.of_below (L := [g, gb]) b1)
    clear b1 HC cs HR HB
    go_wp2_with (first
      | ((with_reducible refine at_store 18 15 ?_); refine tyKc.wpList_storeAt rfl (.tmp 18) (.tmp 15) rfl rfl gb 32 zeroKey rfl rfl 27 _ KB.out (by rw [BkA.len]; omega) ?_; intro v1 ox bx; rw [BkA.set_root] at bx
         have K1 := Lib.hid bx
         have S1 := Lib.hid (ox.blk KS.out (by simpa using HN.out))
         have P1 := Lib.hid (PP.out.only ox (.inl (by simp)))
         clear ox bx)
      | ((with_reducible refine at_store 19 16 ?_); refine wpList_store_blk rfl 9 (.tmp 19) (.tmp 16) rfl rfl g (.string ⟨([] : List UInt8).toArray⟩) rfl rfl rfl 9 _ S1.out (by kernel_rfl) ?_; intro v2 oy bY
         have S2 := Lib.hid bY
         have K2 := Lib.hid (oy.blk K1.out (by simpa using fun e => HN.out e.symm))
         have P2 := Lib.hid (P1.out.only oy (.inl (by simp)))
         clear oy bY))
    go_ret
    exact ⟨P2.out, rfl⟩
  | ok x =>
    obtain ⟨k, r'⟩ := x
    have HC := Lib.hid (hq ▸ hc)
    clear hc hq
    go_enter Tryd.func40, Tryd.ntmps40
    go_wp2_with fail
    refine HC.out.mono ?_
    rintro e w1 ⟨b1, rfl⟩
    have KS := Lib.hid (below_blk b1 HR.out HR.out.lt)
    have KB := Lib.hid (below_blk b1 HB.out HB.out.lt)
    have PP := Lib.hid (PastL.of_below (L := [g, gb]) b1)
    clear b1 HC cs HR HB
    go_wp2_with (first
      | ((with_reducible refine at_store 18 15 ?_); refine tyKc.wpList_storeAt rfl (.tmp 18) (.tmp 15) rfl rfl gb 32 k rfl rfl 27 _ KB.out (by rw [BkA.len]; omega) ?_; intro v1 ox bx; rw [BkA.set_root] at bx
         have K1 := Lib.hid bx
         have S1 := Lib.hid (ox.blk KS.out (by simpa using HN.out))
         have P1 := Lib.hid (PP.out.only ox (.inl (by simp)))
         clear ox bx)
      | ((with_reducible refine at_store 19 16 ?_); refine wpList_store_blk rfl 9 (.tmp 19) (.tmp 16) rfl rfl g (.string ⟨r'.toArray⟩) rfl rfl rfl 9 _ S1.out (by kernel_rfl) ?_; intro v2 oy bY
         have S2 := Lib.hid bY
         have K2 := Lib.hid (oy.blk K1.out (by simpa using fun e => HN.out e.symm))
         have P2 := Lib.hid (P1.out.only oy (.inl (by simp)))
         clear oy bY))
    go_ret
    exact ⟨P2.out, rfl, S2.out, K2.out⟩
set_option maxRecDepth 20000 in
theorem step2_r (r : List UInt8) (hs : r.length ≤ 1000000) (bk : BkA) (g gb : Nat) (hne : g ≠ gb) (w : World) (hr : Sb w g r) (hb : Bb w gb bk) :
    Calls Tryd.prog 42 #[.pointer (some ⟨gb, 0, none⟩), .pointer (some ⟨g, 0, none⟩)] w fun e w' => PastL [g, gb] w w' ∧ match keyR r with
      | .ok (k, r') => e = .returned (.int .i64 0) ∧ Sb w' g r' ∧ Bb w' gb { bk with root := k }
      | .error er => e = .returned (.int .i64 er) := by
  have hc := takeK2_r r hs bk g gb hne w hr hb
  have HC := Lib.hid hc
  clear hc hr hb
  cases hq : keyR r with
  | error er =>
    rw [hq] at HC
    go_enter Tryd.func42, Tryd.ntmps42
    go_wp2_with fail
    refine HC.out.mono ?_
    rintro e w1 ⟨p1, h1⟩
    obtain rfl : e = .returned (.int .i64 er) := h1
    go_wp2_with fail
    go_ret
    exact ⟨p1, rfl⟩
  | ok x =>
    obtain ⟨k, r'⟩ := x
    rw [hq] at HC
    go_enter Tryd.func42, Tryd.ntmps42
    go_wp2_with fail
    refine HC.out.mono ?_
    rintro e w1 ⟨p1, h1⟩
    obtain ⟨rfl, s1, b1⟩ := (h1 : _ ∧ _ ∧ _)
    have S1 := Lib.hid s1
    have B1 := Lib.hid b1
    clear s1 b1
    go_wp2_with fail
    go_ret
    exact ⟨p1, rfl, S1.out, B1.out⟩
theorem getNonce_r (l : List UInt8) (hs : l.length ≤ 1000000) (w : World) :
    Calls Tryd.prog 45 #[.string ⟨l.toArray⟩] w (EndG vu64 (vu64 0) w (getR 4 l)) := by
  have HC := Lib.hid (show Calls Tryd.prog 70 #[.string ⟨l.toArray⟩, .int .i64 4] w (EndG vu64 (vu64 0) w (getR 4 l)) from cGet_r l hs 4 (by omega) (by omega) w)
  cases hq : getR 4 l with
  | error er =>
    rw [hq] at HC
    go_enter Tryd.func45, Tryd.ntmps45
    go_wp2_with fail
    refine HC.out.mono ?_
    rintro e w1 ⟨b1, rfl⟩
    go_wp2_with fail
    go_ret3
    exact ⟨b1, rfl⟩
  | ok x =>
    obtain ⟨n, r⟩ := x
    rw [hq] at HC
    go_enter Tryd.func45, Tryd.ntmps45
    go_wp2_with fail
    refine HC.out.mono ?_
    rintro e w1 ⟨b1, rfl⟩
    go_wp2_with fail
    go_ret3
    exact ⟨b1, rfl⟩
set_option maxRecDepth 20000 in
theorem takeU3_r (r : List UInt8) (hs : r.length ≤ 1000000) (n0 : Nat) (g gn : Nat) (hne : g ≠ gn) (w : World) (hr : Sb w g r) (hb : Nb w gn n0) :
    Calls Tryd.prog 44 #[.pointer (some ⟨gn, 0, none⟩), .pointer (some ⟨g, 0, none⟩), .func (.func 45) #[] #[]] w fun e w' => PastL [g, gn] w w' ∧ match getR 4 r with
      | .ok (n, r') => e = .returned (.int .i64 0) ∧ Sb w' g r' ∧ Nb w' gn n
      | .error er => e = .returned (.int .i64 er) := by
  have hc := getNonce_r r hs w
  have cs := hr.cell 0
  have HN := Lib.hid hne
  have HR := Lib.hid hr
  have HB := Lib.hid hb
  clear hr hb hne
  cases hq : getR 4 r with
  | error er =>
    have HC := Lib.hid (hq ▸ hc)
    clear hc hq
    go_enter Tryd.func44, Tryd.ntmps44
    go_wp2_with fail
    refine HC.out.mono ?_
    rintro e w1 ⟨b1, rfl⟩
    have KS := Lib.hid (below_blk b1 HR.out HR.out.lt)
    have KB := Lib.hid (below_blk b1 HB.out HB.out.lt)
    have PP := Lib.hid (PastL.of_below (L := [g, gn]) b1)
    clear b1 HC cs HR HB
    go_wp2_with (first
      | ((with_reducible refine at_store 18 15 ?_); refine wpList_store_blk rfl 49 (.tmp 18) (.tmp 15) rfl rfl gn (.int .u64 (0 : Nat)) rfl rfl rfl 49 _ KB.out (by kernel_rfl) ?_; intro v1 ox bx
         have K1 := Lib.hid bx
         have S1 := Lib.hid (ox.blk KS.out (by simpa using HN.out))
         have P1 := Lib.hid (PP.out.only ox (.inl (by simp)))
         clear ox bx)
      | ((with_reducible refine at_store 19 16 ?_); refine wpList_store_blk rfl 9 (.tmp 19) (.tmp 16) rfl rfl g (.string ⟨([] : List UInt8).toArray⟩) rfl rfl rfl 9 _ S1.out (by kernel_rfl) ?_; intro v2 oy bY
         have S2 := Lib.hid bY
         have K2 := Lib.hid (oy.blk K1.out (by simpa using fun e => HN.out e.symm))
         have P2 := Lib.hid (P1.out.only oy (.inl (by simp)))
         clear oy bY))
    go_ret
    exact ⟨P2.out, rfl⟩
  | ok x =>
    obtain ⟨n, r'⟩ := x
    have HC := Lib.hid (hq ▸ hc)
    clear hc hq
    go_enter Tryd.func44, Tryd.ntmps44
    go_wp2_with fail
    refine HC.out.mono ?_
    rintro e w1 ⟨b1, rfl⟩
    have KS := Lib.hid (below_blk b1 HR.out HR.out.lt)
    have KB := Lib.hid (below_blk b1 HB.out HB.out.lt)
    have PP := Lib.hid (PastL.of_below (L := [g, gn]) b1)
    clear b1 HC cs HR HB
    go_wp2_with (first
      | ((with_reducible refine at_store 18 15 ?_); refine wpList_store_blk rfl 49 (.tmp 18) (.tmp 15) rfl rfl gn (.int .u64 (n : Nat)) rfl rfl rfl 49 _ KB.out (by kernel_rfl) ?_; intro v1 ox bx
         have K1 := Lib.hid bx
         have S1 := Lib.hid (ox.blk KS.out (by simpa using HN.out))
         have P1 := Lib.hid (PP.out.only ox (.inl (by simp)))
         clear ox bx)
      | ((with_reducible refine at_store 19 16 ?_); refine wpList_store_blk rfl 9 (.tmp 19) (.tmp 16) rfl rfl g (.string ⟨r'.toArray⟩) rfl rfl rfl 9 _ S1.out (by kernel_rfl) ?_; intro v2 oy bY
         have S2 := Lib.hid bY
         have K2 := Lib.hid (oy.blk K1.out (by simpa using fun e => HN.out e.symm))
         have P2 := Lib.hid (P1.out.only oy (.inl (by simp)))
         clear oy bY))
    go_ret
    exact ⟨P2.out, rfl, S2.out, K2.out⟩
set_option maxRecDepth 20000 in
theorem step3_r (r : List UInt8) (hs : r.length ≤ 1000000) (n0 : Nat) (g gn : Nat) (hne : g ≠ gn) (w : World) (hr : Sb w g r) (hb : Nb w gn n0) :
    Calls Tryd.prog 43 #[.pointer (some ⟨gn, 0, none⟩), .pointer (some ⟨g, 0, none⟩)] w fun e w' => PastL [g, gn] w w' ∧ match getR 4 r with
      | .ok (n, r') => e = .returned (.int .i64 0) ∧ Sb w' g r' ∧ Nb w' gn n
      | .error er => e = .returned (.int .i64 er) := by
  have hc := takeU3_r r hs n0 g gn hne w hr hb
  have HC := Lib.hid hc
  clear hc hr hb
  cases hq : getR 4 r with
  | error er =>
    rw [hq] at HC
    go_enter Tryd.func43, Tryd.ntmps43
    go_wp2_with fail
    refine HC.out.mono ?_
    rintro e w1 ⟨p1, h1⟩
    obtain rfl : e = .returned (.int .i64 er) := h1
    go_wp2_with fail
    go_ret
    exact ⟨p1, rfl⟩
  | ok x =>
    obtain ⟨k, r'⟩ := x
    rw [hq] at HC
    go_enter Tryd.func43, Tryd.ntmps43
    go_wp2_with fail
    refine HC.out.mono ?_
    rintro e w1 ⟨p1, h1⟩
    obtain ⟨rfl, s1, b1⟩ := (h1 : _ ∧ _ ∧ _)
    have S1 := Lib.hid s1
    have B1 := Lib.hid b1
    clear s1 b1
    go_wp2_with fail
    go_ret
    exact ⟨p1, rfl, S1.out, B1.out⟩
set_option maxRecDepth 20000 in
theorem takeU4_r (r : List UInt8) (hs : r.length ≤ 1000000) (n0 : Nat) (g gn : Nat) (hne : g ≠ gn) (w : World) (hr : Sb w g r) (hb : Nb w gn n0) :
    Calls Tryd.prog 44 #[.pointer (some ⟨gn, 0, none⟩), .pointer (some ⟨g, 0, none⟩), .func (.func 47) #[] #[]] w fun e w' => PastL [g, gn] w w' ∧ match readR r with
      | .ok (n, r') => e = .returned (.int .i64 0) ∧ Sb w' g r' ∧ Nb w' gn n
      | .error er => e = .returned (.int .i64 er) := by
  have hc := cRead_r r hs w
  have cs := hr.cell 0
  have HN := Lib.hid hne
  have HR := Lib.hid hr
  have HB := Lib.hid hb
  clear hr hb hne
  cases hq : readR r with
  | error er =>
    have HC := Lib.hid (hq ▸ hc)
    clear hc hq
    go_enter Tryd.func44, Tryd.ntmps44
    go_wp2_with fail
    refine HC.out.mono ?_
    rintro e w1 ⟨b1, rfl⟩
    have KS := Lib.hid (below_blk b1 HR.out HR.out.lt)
    have KB := Lib.hid (below_blk b1 HB.out HB.out.lt)
    have PP := Lib.hid (PastL.of_below (L := [g, gn]) b1)
    clear b1 HC cs HR HB
    go_wp2_with (first
      | ((with_reducible refine at_store 18 15 ?_); refine wpList_store_blk rfl 49 (.tmp 18) (.tmp 15) rfl rfl gn (.int .u64 (0 : Nat)) rfl rfl rfl 49 _ KB.out (by kernel_rfl) ?_; intro v1 ox bx
         have K1 := Lib.hid bx
         have S1 := Lib.hid (ox.blk KS.out (by simpa using HN.out))
         have P1 := Lib.hid (PP.out.only ox (.inl (by simp)))
         clear ox bx)
      | ((with_reducible refine at_store 19 16 ?_); refine wpList_store_blk rfl 9 (.tmp 19) (.tmp 16) rfl rfl g (.string ⟨([] : List UInt8).toArray⟩) rfl rfl rfl 9 _ S1.out (by kernel_rfl) ?_; intro v2 oy bY
         have S2 := Lib.hid bY
         have K2 := Lib.hid (oy.blk K1.out (by simpa using fun e => HN.out e.symm))
         have P2 := Lib.hid (P1.out.only oy (.inl (by simp)))
         clear oy bY))
    go_ret
    exact ⟨P2.out, rfl⟩
  | ok x =>
    obtain ⟨n, r'⟩ := x
    have HC := Lib.hid (hq ▸ hc)
    clear hc hq
    go_enter Tryd.func44, Tryd.ntmps44
    go_wp2_with fail
    refine HC.out.mono ?_
    rintro e w1 ⟨b1, rfl⟩
    have KS := Lib.hid (below_blk b1 HR.out HR.out.lt)
    have KB := Lib.hid (below_blk b1 HB.out HB.out.lt)
    have PP := Lib.hid (PastL.of_below (L := [g, gn]) b1)
    clear b1 HC cs HR HB
    go_wp2_with (first
      | ((with_reducible refine at_store 18 15 ?_); refine wpList_store_blk rfl 49 (.tmp 18) (.tmp 15) rfl rfl gn (.int .u64 (n : Nat)) rfl rfl rfl 49 _ KB.out (by kernel_rfl) ?_; intro v1 ox bx
         have K1 := Lib.hid bx
         have S1 := Lib.hid (ox.blk KS.out (by simpa using HN.out))
         have P1 := Lib.hid (PP.out.only ox (.inl (by simp)))
         clear ox bx)
      | ((with_reducible refine at_store 19 16 ?_); refine wpList_store_blk rfl 9 (.tmp 19) (.tmp 16) rfl rfl g (.string ⟨r'.toArray⟩) rfl rfl rfl 9 _ S1.out (by kernel_rfl) ?_; intro v2 oy bY
         have S2 := Lib.hid bY
         have K2 := Lib.hid (oy.blk K1.out (by simpa using fun e => HN.out e.symm))
         have P2 := Lib.hid (P1.out.only oy (.inl (by simp)))
         clear oy bY))
    go_ret
    exact ⟨P2.out, rfl, S2.out, K2.out⟩
set_option maxRecDepth 20000 in
theorem step4_r (r : List UInt8) (hs : r.length ≤ 1000000) (n0 : Nat) (g gn : Nat) (hne : g ≠ gn) (w : World) (hr : Sb w g r) (hb : Nb w gn n0) :
    Calls Tryd.prog 46 #[.pointer (some ⟨gn, 0, none⟩), .pointer (some ⟨g, 0, none⟩)] w fun e w' => PastL [g, gn] w w' ∧ match readR r with
      | .ok (n, r') => e = .returned (.int .i64 0) ∧ Sb w' g r' ∧ Nb w' gn n
      | .error er => e = .returned (.int .i64 er) := by
  have hc := takeU4_r r hs n0 g gn hne w hr hb
  have HC := Lib.hid hc
  clear hc hr hb
  cases hq : readR r with
  | error er =>
    rw [hq] at HC
    go_enter Tryd.func46, Tryd.ntmps46
    go_wp2_with fail
    refine HC.out.mono ?_
    rintro e w1 ⟨p1, h1⟩
    obtain rfl : e = .returned (.int .i64 er) := h1
    go_wp2_with fail
    go_ret
    exact ⟨p1, rfl⟩
  | ok x =>
    obtain ⟨k, r'⟩ := x
    rw [hq] at HC
    go_enter Tryd.func46, Tryd.ntmps46
    go_wp2_with fail
    refine HC.out.mono ?_
    rintro e w1 ⟨p1, h1⟩
    obtain ⟨rfl, s1, b1⟩ := (h1 : _ ∧ _ ∧ _)
    have S1 := Lib.hid s1
    have B1 := Lib.hid b1
    clear s1 b1
    go_wp2_with fail
    go_ret
    exact ⟨p1, rfl, S1.out, B1.out⟩
theorem step5_r (gn n : Nat) (hn : n ≤ 18446744073709551615) (w : World) (h : Nb w gn n) :
    Calls Tryd.prog 48 #[.pointer (some ⟨gn, 0, none⟩)] w fun e w' => e = .returned (.int .i64 (mayI n)) ∧ w' = w := by
  have c := h.cell 0
  have hc : ∀ w, Calls Tryd.prog 22 #[.int .u64 n] w fun e w' => e = .returned (.int .i64 (mayI n)) ∧ w' = w := fun w => bmay_any n hn w
  obtain ⟨z, hz⟩ : ∃ z, mayI n = z := ⟨_, rfl⟩
  rw [hz] at hc ⊢
  have HC := Lib.hid hc
  clear hc hz
  go_enter Tryd.func48, Tryd.ntmps48
  go_wp2_with fail
  refine (HC.out _).mono ?_
  rintro e w1 ⟨rfl, rfl⟩
  go_wp2_with fail
  go_ret
  exact ⟨rfl, rfl⟩
theorem end_r (r : List UInt8) (w : World) :
    Calls Tryd.prog 52 #[.string ⟨r.toArray⟩] w fun e w' => e = .returned (.int .i64 (if r = [] then 0 else 50)) ∧ w' = w := by
  cases r with
  | nil =>
    go_enter Tryd.func52, Tryd.ntmps52
    go_wp2
    go_ret
    exact ⟨rfl, rfl⟩
  | cons b t =>
    go_enter Tryd.func52, Tryd.ntmps52
    go_wp2
    go_ret
    exact ⟨rfl, rfl⟩
theorem step7_r (r : List UInt8) (g : Nat) (w : World) (h : Sb w g r) :
    Calls Tryd.prog 51 #[.pointer (some ⟨g, 0, none⟩)] w fun e w' => e = .returned (.int .i64 (if r = [] then 0 else 50)) ∧ w' = w := by
  have c := h.cell 0
  obtain ⟨z, hz⟩ : ∃ z : Int, (if r = [] then 0 else 50) = z := ⟨_, rfl⟩
  have hc := end_r r w
  rw [hz] at hc ⊢
  have HC := Lib.hid hc
  clear hc hz
  go_enter Tryd.func51, Tryd.ntmps51
  go_wp2_with fail
  refine HC.out.mono ?_
  rintro e w1 ⟨rfl, rfl⟩
  go_wp2_with fail
  go_ret
  exact ⟨rfl, rfl⟩
theorem LB.own {α : Type} {enc : α → List Value} {k : Nat} {e : TypeId} {w : World} {A : Option Addr} {c : Nat} {l : List α} (hk : ∀ x, (enc x).length = k) (h : LB enc e w A c l) (hm : l.length ≤ maxLen) : w.ownsRow 0 e k (.slice A l.length c) l.length (cellsOf enc l) := by
  rcases h with ⟨rfl, rfl, rfl⟩ | ⟨b, rfl, rfl, hb⟩
  · exact World.ownsRow_nil _ _ _ _
  · refine ⟨by rw [cellsOf_len hk], .inr ⟨b, _, _, rfl, Nat.zero_le _, hb, Nat.le_refl _, hm, by rw [List.size_toArray, cellsOf_len hk], ?_⟩⟩
    rw [List.take_of_length_le (by rw [cellsOf_len hk]; exact Nat.le_refl _)]
theorem TL.to {w : World} {a : TxA} (h : TL w a) (hok : OkTx a.T) : TO w a :=
  ⟨h.ins.own (encKI_len _) (Nat.le_trans hok.1 (by decide)), h.outs.own (encIK_len _) (Nat.le_trans hok.2.1 (by decide)), h.nulls.own encK_len (Nat.le_trans hok.2.2.1 (by decide)), h.notes.own encK_len (Nat.le_trans hok.2.2.2.1 (by decide))⟩
/-- what a call owns lies on, where the blocks that turned are of other types -/
theorem own_past {L : List Nat} {w w' : World} {b : Nat} {e : TypeId} {k m : Nat} {u : Value} {ys : List Value} (h : w.ownsRow b e k u m ys) (p : PastL L w w') (hL : ∀ i ∈ L, ∃ t cs, Blk w i t cs ∧ e ≠ t) : w'.ownsRow b e k u m ys := by
  refine ⟨h.1, h.2.imp id fun ⟨g, cap, cur, h1, h2, h3, h4⟩ => ⟨g, cap, cur, h1, h2, ?_, h4⟩⟩
  have hb : Blk w g e cur := h3
  exact (p.block g hb.lt (fun q => by
    obtain ⟨t, cs, h5, h6⟩ := hL g q
    have := own_blk_ne h h5 h6
    rw [h1] at this
    exact this rfl)).trans h3
theorem TO.past {L : List Nat} {w w' : World} {a : TxA} (h : TO w a) (p : PastL L w w') (hL : ∀ i ∈ L, ∃ t cs, Blk w i t cs ∧ 88 ≠ t ∧ 90 ≠ t ∧ 23 ≠ t) : TO w' a :=
  ⟨own_past h.ins p (fun i hi => by obtain ⟨t, cs, h1, h2, _⟩ := hL i hi; exact ⟨t, cs, h1, h2⟩), own_past h.outs p (fun i hi => by obtain ⟨t, cs, h1, _, h2, _⟩ := hL i hi; exact ⟨t, cs, h1, h2⟩),
   own_past h.nulls p (fun i hi => by obtain ⟨t, cs, h1, _, _, h2⟩ := hL i hi; exact ⟨t, cs, h1, h2⟩), own_past h.notes p (fun i hi => by obtain ⟨t, cs, h1, _, _, h2⟩ := hL i hi; exact ⟨t, cs, h1, h2⟩)⟩
end Go.Proofs.YthpnmmilioonhaaDoor
