/- sha.Pad, by the Builder's contracts. -/
import Derived.Test.YtgcopgnkfokphaaDoorPadP
import Derived.Test.YtgcopgnkfokphaaDoorBld
import Derived.Test.YtgcopgnkfokphaaDoorGenA
namespace Go.Proofs.YtgcopgnkfokphaaDoor
open Go.RowKit
set_option maxRecDepth 20000 in
set_option maxHeartbeats 1000000 in
theorem pad_any (s : ByteArray) (hs : s.size ≤ 1000000) (w : World) :
    Calls Tryd.prog 50 #[.string s] w fun e w' => e = .returned (.string ⟨(padL s.data.toList).toArray⟩) ∧ Below w.heap.size w w' := by
  have hz := padZ_lt s.size
  have hsl : s.data.toList.length = s.size := Array.length_toList
  have HL := Lib.hid hsl
  have hrem : (119 - (s.size : Int) % 64) % 64 = (padZ s.size : Nat) := by unfold padZ; omega
  have HZ := Lib.hid hrem
  clear hsl hrem
  generalize hzz : padZ s.size = z at *
  have HZZ := Lib.hid hzz
  clear hzz
  go_enter Tryd.func50, Tryd.ntmps50
  go_wp2_with fail
  rw [HZ.out, show (s.size : Int) + 1 + (119 - (s.size : Int)) % 64 + 8 = ((s.size + 1 + z + 8 : Nat) : Int) by have := HZ.out; omega]
  refine (bld_grow w.heap.size w.heap.size _ _ (Nat.le_refl _) (blk_new _ _ rfl) (by simp) (by omega)).mono ?_
  rintro e w1 ⟨rfl, g1, b1⟩
  have B1 : Below w.heap.size w w1 := ((Below.refl _ _).alloc (Nat.le_refl _) _).trans b1
  have G1 := Lib.hid g1
  clear g1 b1
  go_wp2_with fail
  refine (bld_writeString w.heap.size w.heap.size [] s _ (.inr G1.out) (by simp; omega) B1.size).mono ?_
  rintro e w2 ⟨rfl, g2, b2⟩
  have B2 := B1.trans b2
  have G2 : Hid (Lib.IsBuilder 68 5 w.heap.size w.heap.size (Lib.byteCells s.data.toList) w2) := .inr (by simpa [Lib.strCells_eq] using g2)
  clear g2 b2 G1 B1
  go_wp2_with fail
  refine (bld_writeByte w.heap.size w.heap.size _ _ _ G2.out (by rw [byteCells_len, HL.out]; omega) B2.size).mono ?_
  rintro e w3 ⟨rfl, g3, b3⟩
  have B3 := B2.trans b3
  rw [byteCells_snoc _ 128 128 rfl] at g3
  have G3 : Hid (Lib.IsBuilder 68 5 w.heap.size w.heap.size (Lib.byteCells (padHead s.data.toList 0)) w3) := .inr (by simpa [padHead] using g3)
  clear g3 b3 G2 B2
  go_wp2_with fail
  go_loopw [23] (fun i wr => ∃ k : Nat, k ≤ z ∧ i = .int .i64 k ∧ Lib.IsBuilder 68 5 w.heap.size w.heap.size (Lib.byteCells (padHead s.data.toList k)) wr ∧ Below w.heap.size w wr)
    (fun i _ => z - (intOf i).toNat)
  case atStart => exact ⟨0, by omega, rfl, G3.out, B3⟩
  case round =>
    obtain ⟨k, hk, rfl, hg, hb⟩ := hrel
    have HG := Lib.hid hg
    clear hg
    by_cases hlt : k < z
    · go_wp2_with fail
      refine (bld_writeByte w.heap.size w.heap.size _ _ _ HG.out (by rw [byteCells_len, padHead_len, HL.out]; omega) hb.size).mono ?_
      rintro e w4 ⟨rfl, g4, b4⟩
      have B4 := hb.trans b4
      rw [byteCells_snoc _ 0 0 rfl, ← padHead_succ] at g4
      have G4 := Lib.hid g4
      clear g4 b4
      go_wp2
      go_roundw
      case rel => exact ⟨k + 1, by omega, by go_num, .inr G4.out, B4⟩
      case measure => simp [intOf]; omega
    · have hkz : k = padZ s.data.toList.length := by rw [HL.out, HZZ.out]; omega
      have HG2 : Hid (Lib.IsBuilder 68 5 w.heap.size w.heap.size (Lib.byteCells (padTo s.data.toList 0)) wr) := by
        rw [show padTo s.data.toList 0 = padHead s.data.toList (padZ s.data.toList.length) by simp [padTo], ← hkz]; exact HG.out
      clear HG hkz
      go_wp2_with fail
      go_loopw [31] (fun i wr => ∃ j : Nat, j ≤ 8 ∧ i = .int .i64 j ∧ Lib.IsBuilder 68 5 w.heap.size w.heap.size (Lib.byteCells (padTo s.data.toList j)) wr ∧ Below w.heap.size w wr)
        (fun i _ => 8 - (intOf i).toNat)
      case atStart => exact ⟨0, by omega, rfl, HG2.out, hb⟩
      case round =>
        clear HG2 hb
        rename World => wq
        obtain ⟨j, hj, rfl, hg, hb⟩ := hrel
        have HG := Lib.hid hg
        clear hg
        by_cases hl : j < 8
        · have i0 : (0 : Int) ≤ 56 - 8 * (j : Int) := by omega
          have i1 : 56 - 8 * (j : Int) ≤ 64 := by omega
          go_wp2_with fail
          refine (bld_writeByte w.heap.size w.heap.size _ _ _ HG.out (by rw [byteCells_len, padTo_len, HL.out, HZZ.out]; omega) hb.size).mono ?_
          rintro e w4 ⟨rfl, g4, b4⟩
          have B4 := hb.trans b4
          rw [byteCells_snoc _ (lenB s.data.toList.length j) _ (by rw [lenB_eq, HL.out]), ← padTo_succ] at g4
          have G4 := Lib.hid g4
          clear g4 b4
          go_wp2
          go_roundw
          case rel => exact ⟨j + 1, by omega, by go_num, .inr G4.out, B4⟩
          case measure => simp [intOf]; omega
        · have hj8 : j = 8 := by omega
          have HG2 : Hid (Lib.IsBuilder 68 5 w.heap.size w.heap.size (Lib.byteCells (padL s.data.toList)) wq) := by
            unfold padL; rw [← hj8]; exact HG.out
          clear HG hj8
          go_wp2_with fail
          refine (bld_string w.heap.size w.heap.size _ _ HG2.out hb.size).mono ?_
          rintro e w5 ⟨rfl, b5⟩
          have B5 := hb.trans b5
          go_wp2
          go_ret
          exact ⟨rfl, B5⟩
end Go.Proofs.YtgcopgnkfokphaaDoor
