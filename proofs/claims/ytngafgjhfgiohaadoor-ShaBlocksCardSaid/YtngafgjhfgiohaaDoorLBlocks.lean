/- ShaBlocks: so many of one byte, filled up: the statement's walk. -/
import Derived.Test.YtngafgjhfgiohaaDoorShaG
import Derived.Test.YtngafgjhfgiohaaDoorPadQ
import Derived.Test.YtngafgjhfgiohaaDoorConv
namespace Go.Proofs.YtngafgjhfgiohaaDoor
open Go.RowKit
theorem blk_info5 : (Tryd.prog.info? 5).map (fun i => (i.zero, i.size, i.bytes)) = some (some (.int .u8 0), 1, 1) := by kernel_rfl
set_option maxHeartbeats 1000000 in
theorem blocks_walk (n : Int) (c : UInt8) (h0 : 0 ≤ n) (h1 : n ≤ 65535) (w : World) (hR : Roots w) :
    Calls Tryd.prog 7 #[.int .u16 n, .int .u8 (c.toNat : Int)] w fun e w' => e = .returned (.bool true) ∧ Below w.heap.size w w' := by
  have HR := Lib.hid hR
  have l0 := hR.lt0
  have l1 := hR.lt1
  clear hR
  obtain ⟨m, rfl⟩ := Int.eq_ofNat_of_zero_le h0
  obtain ⟨k, hk⟩ : ∃ k : Nat, m % 600 = k := ⟨_, rfl⟩
  have hk6 : k < 600 := by omega
  have e1 : (m : Int) % 600 = k := by omega
  go_enter Tryd.func7, Tryd.ntmps7
  go_wp2_with fail
  rw [e1]
  clear e1 hk h1
  go_loopw [6, 7] (fun v i wr => ∃ j : Nat, j ≤ k ∧ i = .int .i64 j ∧ wr.ownsRow w.heap.size 5 1 v j (Lib.byteCells (List.replicate j c)) ∧ Below w.heap.size w wr)
    (fun _ i _ => k - (intOf i).toNat)
  case atStart =>
    refine ⟨0, by omega, rfl, ?_, ?_⟩
    · exact World.ownsRow_lit w #[] 0 (Nat.le_refl _) (by unfold maxLen; omega) (by simp)
    · exact (Below.refl _ _).alloc (Nat.le_refl _) _
  case round =>
    obtain ⟨j, hj, rfl, hown, hb⟩ := hrel
    have HO := Lib.hid hown
    clear hown
    by_cases hlt : j < k
    · go_wp2_with (at_builtin; refine wpList_append1 rfl (.tmp 18) (.tmp 20) 36 rfl w.heap.size 5 _ 1 Tryd.underlying36 blk_info5 rfl (by omega) _ _ _ rfl (HO.out.alloc _) _ 1 (.int .u8 (c.toNat : Int)) rfl (Blk.new _ _ _) rfl (by omega) (by have := hb.size; simp; omega) ?_; intro v' w' o' b')
      go_roundw
      case rel =>
        refine ⟨j + 1, by omega, by go_num, ?_, (hb.alloc hb.size _).trans b'⟩
        rw [show Lib.byteCells (List.replicate (j + 1) c) = Lib.byteCells (List.replicate j c) ++ [.int .u8 (c.toNat : Int)] by simp [Lib.byteCells, List.replicate_succ']]
        exact o'
      case measure => simp [intOf]; omega
    · have hjk : j = k := by omega
      subst hjk
      rename Value => v
      have hconv := conv_own (w := wr) (base := w.heap.size) (v := u6) (l := List.replicate j c) (by simpa using HO.out)
      have hsz : (⟨(List.replicate j c).toArray⟩ : ByteArray).size = j := by simp [ByteArray.size]
      have HZ := Lib.hid hsz
      clear hsz HO
      go_wp2_with fail
      have hsj : (⟨Array.replicate j c⟩ : ByteArray).size = j := by simp [ByteArray.size]
      have hsd : (⟨Array.replicate j c⟩ : ByteArray).data.toList = List.replicate j c := by simp
      refine (pad_any ⟨Array.replicate j c⟩ (by rw [hsj]; omega) _).mono ?_
      rintro e w2 ⟨rfl, b2⟩
      have B2 : Below w.heap.size w w2 := hb.trans (b2.mono hb.size)
      rw [hsd]
      obtain ⟨p, hp⟩ : ∃ p : ByteArray, (⟨(padL (List.replicate j c)).toArray⟩ : ByteArray) = p := ⟨_, rfl⟩
      have hpd : p.data.toList = padL (List.replicate j c) := by rw [← hp]
      have hps : p.size = j + 9 + padZ j := by
        rw [← hp]
        show (padL (List.replicate j c)).toArray.size = _
        rw [List.size_toArray, padL_len, List.length_replicate]
      have i1 : p.size = 64 * ((j + 8) / 64 + 1) := by rw [hps]; unfold padZ; omega
      have i2 : ∀ h : j < p.size, p[j]'h = 128 := fun h => by
        rw [← byte_getD p j h, hpd]
        unfold padL padTo padHead
        simp [List.getD_eq_getElem?_getD]
      have i3 : ∀ h : p.size - 1 < p.size, p[p.size - 1]'h = lenB j 7 := fun h => by
        rw [← byte_getD p _ h, hpd, padL_two, hps]
        have := padTo_len (List.replicate j c) 6
        rw [List.length_replicate] at this
        rw [List.getD_eq_getElem?_getD, List.getElem?_append_right (by omega), List.length_replicate, show j + 9 + padZ j - 1 - (padTo (List.replicate j c) 6).length = 1 by omega]
        rfl
      have i4 : ∀ h : p.size - 2 < p.size, p[p.size - 2]'h = lenB j 6 := fun h => by
        rw [← byte_getD p _ h, hpd, padL_two, hps]
        have := padTo_len (List.replicate j c) 6
        rw [List.length_replicate] at this
        rw [List.getD_eq_getElem?_getD, List.getElem?_append_right (by omega), List.length_replicate, show j + 9 + padZ j - 2 - (padTo (List.replicate j c) 6).length = 0 by omega]
        rfl
      rw [hp]
      have hz := padZ_lt j
      have j1 : ((p.size : Int) == 64 * (((j : Int) + 8) / 64 + 1)) = true := beq_iff_eq.2 (by omega)
      have j2 : (j : Int) < p.size := by omega
      have j3 : (2 : Int) ≤ p.size := by omega
      have j4 : (p.size : Int) ≤ 100000 := by omega
      have j5 := lenB_eq j 7
      have j6 := lenB_eq j 6
      clear hp hpd hps i1 hsj hsd b2 hb hconv hz
      go_wp2_with fail
      refine (shown_any _ (HR.out.below B2 l0 l1)).mono ?_
      rintro e w3 ⟨rfl, b3⟩
      have B3 : Below w.heap.size w w3 := B2.trans (b3.mono B2.size)
      go_wp2
      go_ret
      exact ⟨rfl, B3⟩
theorem blocks_all (n c : Int) (hn : (Lit.int .u16 n).wf = true) (hc : (Lit.int .u8 c).wf = true) (w : World) (hR : Roots w) :
    Calls Tryd.prog 7 #[.int .u16 n, .int .u8 c] w fun e w' => e = .returned (.bool true) ∧ Below w.heap.size w w' := by
  have h1 : 0 ≤ n ∧ n ≤ 65535 := by simpa [Lit.wf, IntKind.min, IntKind.max, IntKind.signed, IntKind.bits] using hn
  have h2 : 0 ≤ c ∧ c ≤ 255 := by simpa [Lit.wf, IntKind.min, IntKind.max, IntKind.signed, IntKind.bits] using hc
  have e : ((UInt8.ofNat c.toNat).toNat : Int) = c := by rw [UInt8.toNat_ofNat']; omega
  rw [← e]
  exact blocks_walk n _ h1.1 h1.2 w hR
end Go.Proofs.YtngafgjhfgiohaaDoor
