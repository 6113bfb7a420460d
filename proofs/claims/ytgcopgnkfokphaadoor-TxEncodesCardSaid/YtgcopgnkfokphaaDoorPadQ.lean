/- Plain: texts that are filled up are apart. No program is named here. -/
import Derived.Test.YtgcopgnkfokphaaDoorPadP
import Derived.Test.YtgcopgnkfokphaaDoorGenA
namespace Go.Proofs.YtgcopgnkfokphaaDoor
theorem padL_prefix (l : List UInt8) : (padL l).take l.length = l := by
  unfold padL padTo padHead; simp [List.append_assoc]
theorem padL_two (l : List UInt8) : padL l = padTo l 6 ++ [lenB l.length 6, lenB l.length 7] := by
  unfold padL; rw [padTo_succ l 7, padTo_succ l 6]; simp
theorem lenB_inj (n m : Nat) (hn : n ≤ 4096) (hm : m ≤ 4096) (h6 : lenB n 6 = lenB m 6) (h7 : lenB n 7 = lenB m 7) : n = m := by
  have a := congrArg UInt8.toNat h6
  have b := congrArg UInt8.toNat h7
  unfold lenB at a b
  rw [UInt8.toNat_ofNat', UInt8.toNat_ofNat'] at a b
  simp at a b
  omega
theorem padL_inj (l m : List UInt8) (hl : l.length ≤ 4096) (hm : m.length ≤ 4096) (h : padL l = padL m) : l = m := by
  have h' := h
  rw [padL_two, padL_two] at h'
  have h2 := (List.append_inj' h' rfl).2
  simp only [List.cons.injEq, and_true] at h2
  have hn := lenB_inj _ _ hl hm h2.1 h2.2
  rw [← padL_prefix l, ← padL_prefix m, h, hn]
theorem padL_len (l : List UInt8) : (padL l).length = l.length + 9 + padZ l.length := by
  have := padTo_len l 8; unfold padL; omega
end Go.Proofs.YtgcopgnkfokphaaDoor
