/- tx.join at its three types. Written by genJoin.py. -/
import Derived.Test.YthpnmmilioonhaaTxA
import Derived.Test.YthpnmmilioonhaaBld
namespace Go.Proofs.Ythpnmmilioonhaa
open Go.RowKit
def keyB (k : K32) : List UInt8 := k.1
theorem keyB_len (k : K32) : (keyB k).length = 32 := k.2
theorem byteCells_app (a b : List UInt8) : Lib.byteCells a ++ Lib.byteCells b = Lib.byteCells (a ++ b) := by unfold Lib.byteCells; rw [List.map_append]
theorem bcells_len (l : List UInt8) : (Lib.byteCells l).length = l.length := by simp [Lib.byteCells]
theorem mkb_size (l : List UInt8) : (ByteArray.mk l.toArray).size = l.length := by simp [ByteArray.size]
theorem len_bound {a b m n : Nat} (h : a ≤ m * n) (h2 : b ≤ 40) (hm : m ≤ 40) (hn : n ≤ 1000) : a + b ≤ 140737488355328 := by have := Nat.mul_le_mul hm hn; omega
theorem flat_take_succ {α : Type} (W : α → List UInt8) (l : List α) (k : Nat) (h : k < l.length) : (l.take k).flatMap W ++ W l[k] = (l.take (k + 1)).flatMap W := by
  rw [List.take_succ_eq_append_getElem h, List.flatMap_append]; simp
theorem flat_take_le {α : Type} (W : α → List UInt8) (m : Nat) (hm : ∀ x, (W x).length = m) (l : List α) (k : Nat) : ((l.take k).flatMap W).length ≤ m * l.length := by
  rw [flat_len W m hm]
  exact Nat.mul_le_mul_left m (by rw [List.length_take]; omega)
theorem RowTy.arr {α : Type} {enc : α → List Value} {k : Nat} {P : Program} {t e : TypeId} (T : RowTy P t e enc k) (x : α) : (enc x).toArray.size = k := by rw [List.size_toArray, T.len]
theorem RowTy.arr1 {α : Type} {enc : α → List Value} {k : Nat} {P : Program} {t e : TypeId} (T : RowTy P t e enc k) (x : α) : (enc x).toArray.all (·.oneCell') = true := by rw [List.all_toArray, List.all_eq_true]; exact T.one x
theorem RowTy.arrS {α : Type} {enc : α → List Value} {k : Nat} {P : Program} {t e : TypeId} (T : RowTy P t e enc k) (x : α) : (P.info? e).map (·.size) = some (enc x).toArray.size := by rw [T.arr, T.size]
theorem own_below {w w' : World} {B e size n : Nat} {v : Value} {xs : List Value} (h : w.ownsRow B e size v n xs) (hb : Below w.heap.size w w') : w'.ownsRow B e size v n xs := by
  refine ⟨h.1, ?_⟩
  rcases h.2 with hn | ⟨g, cap, cur, rfl, hg, hgg, rest⟩
  · exact .inl hn
  · exact .inr ⟨g, cap, cur, rfl, hg, by rw [hb.block g (Array.getElem?_eq_some_iff.1 hgg).1]; exact hgg, rest⟩
theorem bldAt_below {T e : TypeId} {B b : Nat} {p : Value} {bs : List Value} {w w' : World} (h : Lib.BuilderAt T e B b p bs w) (hb : Below w.heap.size w w') : Lib.BuilderAt T e B b p bs w' := by
  obtain ⟨hB, v, hbk, hown, hne⟩ := h
  exact ⟨hB, v, by rw [hb.block b (Array.getElem?_eq_some_iff.1 hbk).1]; exact hbk, own_below hown hb, hne⟩
theorem bld_below {T e : TypeId} {B b : Nat} {bs : List Value} {w w' : World} (h : Lib.IsBuilder T e B b bs w) (hb : Below w.heap.size w w') : Lib.IsBuilder T e B b bs w' :=
  h.elim (fun x => .inl (bldAt_below x hb)) (fun x => .inr (bldAt_below x hb))
theorem bld_fresh (w : World) (T e : TypeId) {W : World} (hW : W = w.alloc (.cells #[.pointer none, .slice none 0 0] T)) : Lib.IsBuilder T e w.heap.size w.heap.size [] W :=
  hW ▸ .inl ⟨Nat.le_refl _, .slice none 0 0, Blk.new w T _, World.ownsRow_nil _ _ _ _, by simp [Value.ownBlock]⟩
set_option maxRecDepth 20000 in
theorem joinPt_any (A : Option Addr) (c : Nat) (l : List (K32 × IntV .u32)) (w : World) (hl : RowIn (encKI .u32) 33 w w.heap.size A c l) (hn : l.length ≤ 1000) :
    Calls Try.prog 62 #[.slice A l.length c, .func (.func 63) #[] #[]] w fun e w' => e = .returned (.string ⟨(l.flatMap ptB).toArray⟩) ∧ Below w.heap.size w w' := by
  have HL := Lib.hid hl
  clear hl
  go_enter Try.func62, Try.ntmps62
  go_wp2_with fail
  go_loopw [10] (fun i wr => ∃ k : Nat, k ≤ l.length ∧ i = .int .i64 k ∧ Lib.IsBuilder 75 5 w.heap.size w.heap.size (Lib.byteCells ((l.take k).flatMap ptB)) wr ∧ Below w.heap.size w wr)
    (fun i _ => l.length - (intOf i).toNat)
  case atStart => exact ⟨0, by omega, rfl, bld_fresh w _ _ rfl, (Below.refl _ _).alloc (Nat.le_refl _) _⟩
  case round =>
    obtain ⟨k, hk, rfl, hg, hb⟩ := hrel
    have HG := Lib.hid hg
    clear hg
    by_cases hlt : k < l.length
    · obtain ⟨g, o, rfl, hg, hc⟩ := (HL.out.below hb).at (encKI_len _) hlt
      have hsz := hb.size
      have HC := Lib.hid hc
      have hm := flat_take_le ptB _ ptB_len l k
      have hx : (ptB l[k]).length ≤ 40 := (show ∀ x, (ptB x).length ≤ 40 from fun x => Nat.le_trans (Nat.le_of_eq (ptB_len x)) (by omega)) _
      have HM := Lib.hid hm
      have HX := Lib.hid hx
      clear hc hm hx
      go_wp2_with (first
        | ((with_reducible refine at_load 12 ?_); refine tyPt.wpList_load rfl (.tmp 12) rfl g (o + k * 33) rfl l[k] HC.out ?_)
        | ((with_reducible refine at_store 7 13 ?_); refine wpList_store_arr rfl 49 (.tmp 7) (.tmp 13) rfl rfl wr.heap.size (encKI .u32 l[k]).toArray rfl rfl 49 _ (Blk.new wr _ _) (tyPt.arrS _) (by rw [tyPt.arr]; rfl) (tyPt.arr1 _) ?_; intro w3 o3 b3; have K3 := Lib.hid (RowC.of_blk b3); have B3 := Lib.hid (o3.below (B := wr.heap.size) (by simp)); have Z3 := B3.out.size; clear b3 o3)
        | ((with_reducible refine at_load 7 ?_); refine tyPt.wpList_load rfl (.tmp 7) rfl wr.heap.size 0 rfl l[k] (by simpa using K3.out) ?_)
        )
      refine (point_any l[k] _).mono ?_
      rintro e w4 ⟨rfl, b4⟩
      have hz3 : wr.heap.size ≤ w3.heap.size := by simp at Z3; omega
      have B4 : Below wr.heap.size wr w4 := ((Below.refl _ _).alloc (Nat.le_refl _) _).trans (B3.out.trans (b4.mono hz3))
      have G4 := Lib.hid (bld_below HG.out B4)
      have Z4 := B4.size
      have B4h := Lib.hid (hb.trans (B4.mono hsz))
      clear b4 B3 Z3 hz3 B4 HG K3
      go_wp2_with fail
      refine (bld_writeString w.heap.size w.heap.size _ ⟨(ptB l[k]).toArray⟩ _ G4.out (by rw [bcells_len, mkb_size]; exact len_bound HM.out HX.out (by omega) hn) (by omega)).mono ?_
      rintro e w5 ⟨rfl, g5, b5⟩
      rw [show Lib.byteCells ((l.take k).flatMap ptB) ++ Lib.strCells ⟨(ptB l[k]).toArray⟩ = Lib.byteCells ((l.take (k + 1)).flatMap ptB) by rw [← flat_take_succ _ _ _ hlt, ← byteCells_app]; simp [Lib.strCells_eq]] at g5
      have G5 := Lib.hid g5
      clear g5 HM HX HC
      have B5 := Lib.hid (B4h.out.trans b5)
      clear b5 G4
      go_wp2
      go_roundw
      case rel => exact ⟨k + 1, by omega, by go_num, .inr G5.out, B5.out⟩
      case measure => simp [intOf]; omega
    · have hkl : k = l.length := by omega
      have HG2 : Hid (Lib.IsBuilder 75 5 w.heap.size w.heap.size (Lib.byteCells (l.flatMap ptB)) wr) := by
        have := HG.out
        rw [hkl, List.take_length] at this; exact this
      clear HG hkl
      go_wp2_with fail
      refine (bld_string w.heap.size w.heap.size _ _ HG2.out hb.size).mono ?_
      rintro e w5 ⟨rfl, b5⟩
      have B5 := hb.trans b5
      go_wp2
      go_ret
      exact ⟨rfl, B5⟩
set_option maxRecDepth 20000 in
theorem joinOut_any (A : Option Addr) (c : Nat) (l : List (IntV .i64 × K32)) (w : World) (hl : RowIn (encIK .i64) 33 w w.heap.size A c l) (hn : l.length ≤ 1000) :
    Calls Try.prog 65 #[.slice A l.length c, .func (.func 66) #[] #[]] w fun e w' => e = .returned (.string ⟨(l.flatMap outB).toArray⟩) ∧ Below w.heap.size w w' := by
  have HL := Lib.hid hl
  clear hl
  go_enter Try.func65, Try.ntmps65
  go_wp2_with fail
  go_loopw [10] (fun i wr => ∃ k : Nat, k ≤ l.length ∧ i = .int .i64 k ∧ Lib.IsBuilder 75 5 w.heap.size w.heap.size (Lib.byteCells ((l.take k).flatMap outB)) wr ∧ Below w.heap.size w wr)
    (fun i _ => l.length - (intOf i).toNat)
  case atStart => exact ⟨0, by omega, rfl, bld_fresh w _ _ rfl, (Below.refl _ _).alloc (Nat.le_refl _) _⟩
  case round =>
    obtain ⟨k, hk, rfl, hg, hb⟩ := hrel
    have HG := Lib.hid hg
    clear hg
    by_cases hlt : k < l.length
    · obtain ⟨g, o, rfl, hg, hc⟩ := (HL.out.below hb).at (encIK_len _) hlt
      have hsz := hb.size
      have HC := Lib.hid hc
      have hm := flat_take_le outB _ outB_len l k
      have hx : (outB l[k]).length ≤ 40 := (show ∀ x, (outB x).length ≤ 40 from fun x => Nat.le_trans (Nat.le_of_eq (outB_len x)) (by omega)) _
      have HM := Lib.hid hm
      have HX := Lib.hid hx
      clear hc hm hx
      go_wp2_with (first
        | ((with_reducible refine at_load 12 ?_); refine tyOut.wpList_load rfl (.tmp 12) rfl g (o + k * 33) rfl l[k] HC.out ?_)
        | ((with_reducible refine at_store 7 13 ?_); refine wpList_store_arr rfl 92 (.tmp 7) (.tmp 13) rfl rfl wr.heap.size (encIK .i64 l[k]).toArray rfl rfl 92 _ (Blk.new wr _ _) (tyOut.arrS _) (by rw [tyOut.arr]; rfl) (tyOut.arr1 _) ?_; intro w3 o3 b3; have K3 := Lib.hid (RowC.of_blk b3); have B3 := Lib.hid (o3.below (B := wr.heap.size) (by simp)); have Z3 := B3.out.size; clear b3 o3)
        | ((with_reducible refine at_load 7 ?_); refine tyOut.wpList_load rfl (.tmp 7) rfl wr.heap.size 0 rfl l[k] (by simpa using K3.out) ?_)
        )
      refine (out_any l[k] _).mono ?_
      rintro e w4 ⟨rfl, b4⟩
      have hz3 : wr.heap.size ≤ w3.heap.size := by simp at Z3; omega
      have B4 : Below wr.heap.size wr w4 := ((Below.refl _ _).alloc (Nat.le_refl _) _).trans (B3.out.trans (b4.mono hz3))
      have G4 := Lib.hid (bld_below HG.out B4)
      have Z4 := B4.size
      have B4h := Lib.hid (hb.trans (B4.mono hsz))
      clear b4 B3 Z3 hz3 B4 HG K3
      go_wp2_with fail
      refine (bld_writeString w.heap.size w.heap.size _ ⟨(outB l[k]).toArray⟩ _ G4.out (by rw [bcells_len, mkb_size]; exact len_bound HM.out HX.out (by omega) hn) (by omega)).mono ?_
      rintro e w5 ⟨rfl, g5, b5⟩
      rw [show Lib.byteCells ((l.take k).flatMap outB) ++ Lib.strCells ⟨(outB l[k]).toArray⟩ = Lib.byteCells ((l.take (k + 1)).flatMap outB) by rw [← flat_take_succ _ _ _ hlt, ← byteCells_app]; simp [Lib.strCells_eq]] at g5
      have G5 := Lib.hid g5
      clear g5 HM HX HC
      have B5 := Lib.hid (B4h.out.trans b5)
      clear b5 G4
      go_wp2
      go_roundw
      case rel => exact ⟨k + 1, by omega, by go_num, .inr G5.out, B5.out⟩
      case measure => simp [intOf]; omega
    · have hkl : k = l.length := by omega
      have HG2 : Hid (Lib.IsBuilder 75 5 w.heap.size w.heap.size (Lib.byteCells (l.flatMap outB)) wr) := by
        have := HG.out
        rw [hkl, List.take_length] at this; exact this
      clear HG hkl
      go_wp2_with fail
      refine (bld_string w.heap.size w.heap.size _ _ HG2.out hb.size).mono ?_
      rintro e w5 ⟨rfl, b5⟩
      have B5 := hb.trans b5
      go_wp2
      go_ret
      exact ⟨rfl, B5⟩
set_option maxRecDepth 20000 in
theorem joinKey_any (A : Option Addr) (c : Nat) (l : List (K32)) (w : World) (hl : RowIn (encK) 32 w w.heap.size A c l) (hn : l.length ≤ 1000) :
    Calls Try.prog 68 #[.slice A l.length c, .func (.func 41) #[] #[]] w fun e w' => e = .returned (.string ⟨(l.flatMap keyB).toArray⟩) ∧ Below w.heap.size w w' := by
  have HL := Lib.hid hl
  clear hl
  go_enter Try.func68, Try.ntmps68
  go_wp2_with fail
  go_loopw [10] (fun i wr => ∃ k : Nat, k ≤ l.length ∧ i = .int .i64 k ∧ Lib.IsBuilder 75 5 w.heap.size w.heap.size (Lib.byteCells ((l.take k).flatMap keyB)) wr ∧ Below w.heap.size w wr)
    (fun i _ => l.length - (intOf i).toNat)
  case atStart => exact ⟨0, by omega, rfl, bld_fresh w _ _ rfl, (Below.refl _ _).alloc (Nat.le_refl _) _⟩
  case round =>
    obtain ⟨k, hk, rfl, hg, hb⟩ := hrel
    have HG := Lib.hid hg
    clear hg
    by_cases hlt : k < l.length
    · obtain ⟨g, o, rfl, hg, hc⟩ := (HL.out.below hb).at (encK_len) hlt
      have hsz := hb.size
      have HC := Lib.hid hc
      have hm := flat_take_le keyB _ keyB_len l k
      have hx : (keyB l[k]).length ≤ 40 := (show ∀ x, (keyB x).length ≤ 40 from fun x => Nat.le_trans (Nat.le_of_eq (keyB_len x)) (by omega)) _
      have HM := Lib.hid hm
      have HX := Lib.hid hx
      clear hc hm hx
      go_wp2_with (first
        | ((with_reducible refine at_load 12 ?_); refine tyKy.wpList_load rfl (.tmp 12) rfl g (o + k * 32) rfl l[k] HC.out ?_)
        | ((with_reducible refine at_store 7 13 ?_); refine wpList_store_arr rfl 24 (.tmp 7) (.tmp 13) rfl rfl wr.heap.size (encK l[k]).toArray rfl rfl 24 _ (Blk.new wr _ _) (tyKy.arrS _) (by rw [tyKy.arr]; rfl) (tyKy.arr1 _) ?_; intro w3 o3 b3; have K3 := Lib.hid (RowC.of_blk b3); have B3 := Lib.hid (o3.below (B := wr.heap.size) (by simp)); have Z3 := B3.out.size; clear b3 o3)
        | ((with_reducible refine at_load 7 ?_); refine tyKy.wpList_load rfl (.tmp 7) rfl wr.heap.size 0 rfl l[k] (by simpa using K3.out) ?_)
        )
      refine (bytesK_any l[k] _).mono ?_
      rintro e w4 ⟨rfl, b4⟩
      have hz3 : wr.heap.size ≤ w3.heap.size := by simp at Z3; omega
      have B4 : Below wr.heap.size wr w4 := ((Below.refl _ _).alloc (Nat.le_refl _) _).trans (B3.out.trans (b4.mono hz3))
      have G4 := Lib.hid (bld_below HG.out B4)
      have Z4 := B4.size
      have B4h := Lib.hid (hb.trans (B4.mono hsz))
      clear b4 B3 Z3 hz3 B4 HG K3
      go_wp2_with fail
      refine (bld_writeString w.heap.size w.heap.size _ ⟨(keyB l[k]).toArray⟩ _ G4.out (by rw [bcells_len, mkb_size]; exact len_bound HM.out HX.out (by omega) hn) (by omega)).mono ?_
      rintro e w5 ⟨rfl, g5, b5⟩
      rw [show Lib.byteCells ((l.take k).flatMap keyB) ++ Lib.strCells ⟨(keyB l[k]).toArray⟩ = Lib.byteCells ((l.take (k + 1)).flatMap keyB) by rw [← flat_take_succ _ _ _ hlt, ← byteCells_app]; simp [Lib.strCells_eq]] at g5
      have G5 := Lib.hid g5
      clear g5 HM HX HC
      have B5 := Lib.hid (B4h.out.trans b5)
      clear b5 G4
      go_wp2
      go_roundw
      case rel => exact ⟨k + 1, by omega, by go_num, .inr G5.out, B5.out⟩
      case measure => simp [intOf]; omega
    · have hkl : k = l.length := by omega
      have HG2 : Hid (Lib.IsBuilder 75 5 w.heap.size w.heap.size (Lib.byteCells (l.flatMap keyB)) wr) := by
        have := HG.out
        rw [hkl, List.take_length] at this; exact this
      clear HG hkl
      go_wp2_with fail
      refine (bld_string w.heap.size w.heap.size _ _ HG2.out hb.size).mono ?_
      rintro e w5 ⟨rfl, b5⟩
      have B5 := hb.trans b5
      go_wp2
      go_ret
      exact ⟨rfl, B5⟩
end Go.Proofs.Ythpnmmilioonhaa
