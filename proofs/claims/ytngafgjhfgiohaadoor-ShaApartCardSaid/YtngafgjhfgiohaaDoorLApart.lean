/- ShaApart: whatever two texts come in, what they are filled up to is whole blocks, begins by them, and is one thing just where they are one: the statement's walk. -/
import Derived.Test.YtngafgjhfgiohaaDoorShaG
import Derived.Test.YtngafgjhfgiohaaDoorPadQ
namespace Go.Proofs.YtngafgjhfgiohaaDoor
open Go.RowKit
set_option maxHeartbeats 1000000 in
theorem apart_walk (s t : ByteArray) (hs : s.size ≤ maxLen) (ht : t.size ≤ maxLen) (w : World) (hR : Roots w) :
    Calls Tryd.prog 5 #[.string s, .string t] w fun e w' => e = .returned (.bool true) ∧ Below w.heap.size w w' := by
  unfold maxLen at hs ht
  have HR := Lib.hid hR
  have l0 := hR.lt0
  have l1 := hR.lt1
  clear hR
  by_cases h1 : 2048 < s.size
  · go_enter Tryd.func5, Tryd.ntmps5
    go_wp2_with fail
    refine (shown_any _ HR.out).mono ?_
    rintro e w1 ⟨rfl, b1⟩
    go_wp2
    go_ret
    exact ⟨rfl, b1⟩
  by_cases h2 : 2048 < t.size
  · go_enter Tryd.func5, Tryd.ntmps5
    go_wp2_with fail
    refine (shown_any _ HR.out).mono ?_
    rintro e w1 ⟨rfl, b1⟩
    go_wp2
    go_ret
    exact ⟨rfl, b1⟩
  go_enter Tryd.func5, Tryd.ntmps5
  go_wp2_with fail
  refine (shown_any _ HR.out).mono ?_
  rintro e w1 ⟨rfl, b1⟩
  go_wp2_with fail
  refine (pad_any s (by omega) _).mono ?_
  rintro e w2 ⟨rfl, b2⟩
  go_wp2_with fail
  refine (pad_any t (by omega) _).mono ?_
  rintro e w3 ⟨rfl, b3⟩
  have B3 : Below w.heap.size w w3 := (b1.trans (b2.mono b1.size)).trans (b3.mono (Nat.le_trans b1.size b2.size))
  have e1 : s.data.toList.length = s.size := Array.length_toList
  have e2 : t.data.toList.length = t.size := Array.length_toList
  obtain ⟨p, hp⟩ : ∃ p : ByteArray, (⟨(padL s.data.toList).toArray⟩ : ByteArray) = p := ⟨_, rfl⟩
  obtain ⟨q, hq⟩ : ∃ q : ByteArray, (⟨(padL t.data.toList).toArray⟩ : ByteArray) = q := ⟨_, rfl⟩
  have hps : p.size = s.size + 9 + padZ s.size := by
    rw [← hp, ← e1]
    show (padL s.data.toList).toArray.size = _
    rw [List.size_toArray, padL_len]
  have hz := padZ_lt s.size
  have hpm : p.size % 64 = 0 := by rw [← hp]; show (padL s.data.toList).toArray.size % 64 = 0; rw [List.size_toArray]; exact padL_mod _
  have hx : p.extract 0 s.size = s := by
    apply bytes_ext
    rw [extract_list, ← hp, ← e1]
    simpa using padL_prefix s.data.toList
  have hpq : (p.toList == q.toList) = (s.toList == t.toList) := by
    rw [ba_beq, ba_beq, decide_eq_decide]
    constructor
    · intro h
      rw [← hp, ← hq] at h
      have h' := congrArg (fun b : ByteArray => b.data.toList) h
      exact bytes_ext (padL_inj _ _ (by omega) (by omega) (by simpa using h'))
    · rintro rfl
      rw [← hp, ← hq]
  rw [hp, hq]
  have i1 : ((p.size : Int) % 64 == 0) = true := beq_iff_eq.2 (by omega)
  have i2 : (s.size : Int) + 9 ≤ p.size := by omega
  have i3 : (p.size : Int) ≤ s.size + 72 := by omega
  have i4 : (s.size : Int) ≤ p.size := by omega
  have i5 : ((p.extract 0 s.size).toList == s.toList) = true := by rw [ba_beq, hx]; simp
  clear hp hq hps hz hpm hx e1 e2 b1 b2 b3
  go_wp2
  go_ret
  exact ⟨rfl, B3⟩
end Go.Proofs.YtngafgjhfgiohaaDoor
