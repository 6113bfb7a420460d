/- slices.Reverse at coins and points (the shelf's contract laid by name), backward. Written by genCoRv.py. -/
import Derived.Shelf.SlicesQ.Reverse
import Derived.Test.YtkjgmhamglhggaaSortK
import Derived.Test.YtkjgmhamglhggaaCoPS
namespace Go.Proofs.Ytkjgmhamglhggaa
open Go.Shelf Go.RowKit Go.Sort
def revC_ren : Go.Shelf.Ren := ⟨fun | 35 => 51 | n => n,
  fun | 0 => 0 | 3 => 3 | 4 => 4 | 22 => 22 | 23 => 49 | n => n, fun n => n⟩
theorem revC : SlLaysE0.n35 Try.prog revC_ren := {
  mixed := by kernel_rfl
  f35 := ⟨Try.f51.name, by decide, Try.func51.trans (congrArg some (by kernel_rfl))⟩
  t0 := Try.underlying0
  a0 := Try.isAgg0
  z0 := Try.sizeOf0
  v0 := Try.zeroValue0
  t3 := Try.underlying3
  a3 := Try.isAgg3
  z3 := Try.sizeOf3
  v3 := Try.zeroValue3
  t4 := Try.underlying4
  a4 := Try.isAgg4
  z4 := Try.sizeOf4
  v4 := Try.zeroValue4
  t22 := Try.underlying22
  a22 := Try.isAgg22
  z22 := Try.sizeOf22
  v22 := Try.zeroValue22 }
def revP_ren : Go.Shelf.Ren := ⟨fun | 35 => 50 | n => n,
  fun | 0 => 0 | 3 => 3 | 4 => 4 | 22 => 24 | 23 => 32 | n => n, fun n => n⟩
theorem revP : SlLaysE0.n35 Try.prog revP_ren := {
  mixed := by kernel_rfl
  f35 := ⟨Try.f50.name, by decide, Try.func50.trans (congrArg some (by kernel_rfl))⟩
  t0 := Try.underlying0
  a0 := Try.isAgg0
  z0 := Try.sizeOf0
  v0 := Try.zeroValue0
  t3 := Try.underlying3
  a3 := Try.isAgg3
  z3 := Try.sizeOf3
  v3 := Try.zeroValue3
  t4 := Try.underlying4
  a4 := Try.isAgg4
  z4 := Try.sizeOf4
  v4 := Try.zeroValue4
  t22 := Try.underlying24
  a22 := Try.isAgg24
  z22 := Try.sizeOf24
  v22 := Try.zeroValue24 }
instance : Inhabited CoinV := ⟨zeroCoin⟩
instance : Inhabited (IntV .u32) := ⟨⟨0, by decide⟩⟩
theorem grow_nil (w : World) : grow w #[] = w := by simp [grow]
theorem cReverse_own (g cap base : Nat) (l : List CoinV) (w : World) (hl : l.length ≤ 1000000) (h : w.ownsRow base 49 68 (.slice (some ⟨g, 0, none⟩) l.length cap) l.length (cellsOf encC l)) :
    Calls Try.prog 51 #[.slice (some ⟨g, 0, none⟩) l.length cap] w fun e w' =>
      e = .returned (.tuple #[]) ∧ w'.ownsRow base 49 68 (.slice (some ⟨g, 0, none⟩) l.length cap) l.length (cellsOf encC l.reverse) ∧ Below base w w' := by
  obtain ⟨hH, hg, hb⟩ := holdsK_own encC_len (by omega) h
  refine (AnyQ.slices_Reverse revC 68 tyCo.agg tyCo.sizeOf encC encC_len encC_one g 0 cap l.toArray w hH (by simp; omega)).mono ?_
  rintro e w' ⟨rfl, n, rfl⟩
  have := own_sortWorldK (enc := encC) encC_len (by omega) h l.toArray.reverse (by simp) n #[]
  unfold sortWorldK at this
  rw [grow_nil] at this
  simpa using this
theorem cReverse_none (a : Option Addr) (cap : Nat) (w : World) : Calls Try.prog 51 #[.slice a 0 cap] w fun e w' => e = .returned (.tuple #[]) ∧ w' = w :=
  AnyQ.slices_Reverse_empty revC a cap w
theorem pReverse_own (g cap base : Nat) (l : List PtV) (w : World) (hl : l.length ≤ 1000000) (h : w.ownsRow base 32 33 (.slice (some ⟨g, 0, none⟩) l.length cap) l.length (cellsOf (encKI .u32) l)) :
    Calls Try.prog 50 #[.slice (some ⟨g, 0, none⟩) l.length cap] w fun e w' =>
      e = .returned (.tuple #[]) ∧ w'.ownsRow base 32 33 (.slice (some ⟨g, 0, none⟩) l.length cap) l.length (cellsOf (encKI .u32) l.reverse) ∧ Below base w w' := by
  obtain ⟨hH, hg, hb⟩ := holdsK_own (encKI_len _) (by omega) h
  refine (AnyQ.slices_Reverse revP 33 tyPt.agg tyPt.sizeOf (encKI .u32) (encKI_len _) (encKI_one _) g 0 cap l.toArray w hH (by simp; omega)).mono ?_
  rintro e w' ⟨rfl, n, rfl⟩
  have := own_sortWorldK (enc := (encKI .u32)) (encKI_len _) (by omega) h l.toArray.reverse (by simp) n #[]
  unfold sortWorldK at this
  rw [grow_nil] at this
  simpa using this
theorem pReverse_none (a : Option Addr) (cap : Nat) (w : World) : Calls Try.prog 50 #[.slice a 0 cap] w fun e w' => e = .returned (.tuple #[]) ∧ w' = w :=
  AnyQ.slices_Reverse_empty revP a cap w
theorem cBack_any (A : Option Addr) (c : Nat) (l : List CoinV) (B : Nat) (w : World) (hl : l.length ≤ 1000000) (hB : B ≤ w.heap.size) (h : RowIn encC 68 w B A c l) :
    Calls Try.prog 39 #[.slice A l.length c] w fun e w' => ∃ v, e = .returned v ∧ w'.ownsRow w.heap.size 49 68 v l.length (cellsOf encC l.reverse) ∧ Below w.heap.size w w' := by
  have HC := Lib.hid (cClone_any A c l B w hl hB h)
  have HS := Lib.hid (fun (g cap : Nat) W hW => cReverse_own g cap w.heap.size l W hl hW)
  have H0 : l.length = 0 → l.reverse = l := fun e => by rw [List.eq_nil_of_length_eq_zero e]; rfl
  have HH0 := Lib.hid H0
  clear H0 h
  obtain ⟨n, hn⟩ : ∃ n, l.length = n := ⟨_, rfl⟩
  rw [hn] at HC HS HH0 ⊢
  go_enter Try.func39, Try.ntmps39
  go_wp2_with fail
  refine HC.out.mono ?_
  rintro e w1 ⟨v, rfl, hown, b1⟩
  rcases hown.2 with ⟨rfl, h0⟩ | ⟨g, cap, cur, rfl, hb, hh, hn', hm, hs, ht⟩
  · have HO := Lib.hid hown
    clear hown
    go_wp2_with (go_at_call 51; refine (cReverse_none _ _ _).mono ?_; rintro e w2 ⟨rfl, rfl⟩)
    go_ret
    exact ⟨_, rfl, by rw [HH0.out h0]; exact HO.out, b1⟩
  · have HO := Lib.hid hown
    clear hown hb hh hn' hm hs ht
    go_wp2_with (go_at_call 51; refine (HS.out g cap _ HO.out).mono ?_; rintro e w2 ⟨rfl, o2, b2⟩)
    go_ret
    exact ⟨_, rfl, o2, b1.trans b2⟩
theorem pBack_any (A : Option Addr) (c : Nat) (l : List PtV) (B : Nat) (w : World) (hl : l.length ≤ 1000000) (hB : B ≤ w.heap.size) (h : RowIn (encKI .u32) 33 w B A c l) :
    Calls Try.prog 37 #[.slice A l.length c] w fun e w' => ∃ v, e = .returned v ∧ w'.ownsRow w.heap.size 32 33 v l.length (cellsOf (encKI .u32) l.reverse) ∧ Below w.heap.size w w' := by
  have HC := Lib.hid (pClone_any A c l B w hl hB h)
  have HS := Lib.hid (fun (g cap : Nat) W hW => pReverse_own g cap w.heap.size l W hl hW)
  have H0 : l.length = 0 → l.reverse = l := fun e => by rw [List.eq_nil_of_length_eq_zero e]; rfl
  have HH0 := Lib.hid H0
  clear H0 h
  obtain ⟨n, hn⟩ : ∃ n, l.length = n := ⟨_, rfl⟩
  rw [hn] at HC HS HH0 ⊢
  go_enter Try.func37, Try.ntmps37
  go_wp2_with fail
  refine HC.out.mono ?_
  rintro e w1 ⟨v, rfl, hown, b1⟩
  rcases hown.2 with ⟨rfl, h0⟩ | ⟨g, cap, cur, rfl, hb, hh, hn', hm, hs, ht⟩
  · have HO := Lib.hid hown
    clear hown
    go_wp2_with (go_at_call 50; refine (pReverse_none _ _ _).mono ?_; rintro e w2 ⟨rfl, rfl⟩)
    go_ret
    exact ⟨_, rfl, by rw [HH0.out h0]; exact HO.out, b1⟩
  · have HO := Lib.hid hown
    clear hown hb hh hn' hm hs ht
    go_wp2_with (go_at_call 50; refine (HS.out g cap _ HO.out).mono ?_; rintro e w2 ⟨rfl, o2, b2⟩)
    go_ret
    exact ⟨_, rfl, o2, b1.trans b2⟩
end Go.Proofs.Ytkjgmhamglhggaa
