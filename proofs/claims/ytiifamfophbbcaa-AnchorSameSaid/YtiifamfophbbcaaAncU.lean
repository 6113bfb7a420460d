/- A ring in a variable, and a key beside it: what the laws' loops keep. -/
import Derived.Test.YtiifamfophbbcaaAncT
namespace Go.Proofs.Ytiifamfophbbcaa
open Go.RowKit
/-- a block that holds a slice is none of a row of keys -/
theorem ring_apart {W : World} {gr B c : Nat} {t : TypeId} {x : Option Addr × Nat × Nat} {A : Option Addr} {l : List K32} (hb : Blk W gr t (encR x).toArray) (hr : RowIn encK 32 W B A c l) (hn : l ≠ []) : ∀ g o, A = some ⟨g, o, none⟩ → g ≠ gr := by
  intro g o hA hg
  obtain ⟨g', o', e, _, hc⟩ := hr.cells hn
  rw [hA] at e
  obtain ⟨rfl, rfl⟩ : g = g' ∧ o = o' := by simpa using e
  subst hg
  cases l with
  | nil => exact hn rfl
  | cons y t =>
    have e1 : cellsOf encK (y :: t) = encK y ++ cellsOf encK t := by simp [cellsOf]
    rw [e1] at hc
    obtain ⟨s, hs⟩ := y
    cases s with
    | nil => simp at hs
    | cons b bs =>
      have h2 := hc.left 0 (.int .u8 b.toNat) (by simp [encK, bytesA])
      rw [hb.cell] at h2
      unfold encR at h2
      rw [List.getElem?_toArray, List.getElem?_singleton] at h2
      split at h2 <;> simp at h2
theorem arow_only' {w w' : World} {L : List Nat} {B : Nat} {A : Option Addr} {c : Nat} {l : List K32} (h : RowIn encK 32 w B A c l) (hO : Only L w w') (hA : l ≠ [] → ∀ g o, A = some ⟨g, o, none⟩ → g ∉ L) : RowIn encK 32 w' B A c l :=
  ⟨h.le, h.max, fun hn => let ⟨g, o, e, hg, hc⟩ := h.cells hn; ⟨g, o, e, hg, arowC_only hc hO (hA hn g o e)⟩⟩
structure RgS (w : World) (gk : Nat) (k : K32) (gr : Nat) (rl : List K32) (A : Option Addr) (c : Nat) (W : World) : Prop where
  below : Below w.heap.size w W
  kb : Blk W gk 24 (encK k).toArray
  rb : Blk W gr 27 (encR (A, rl.length, c)).toArray
  row : RowIn encK 32 W W.heap.size A c rl
  hgr : w.heap.size ≤ gr
section
variable {w W W' : World} {gk gr : Nat} {k : K32} {rl rl' : List K32} {A A' : Option Addr} {c c' : Nat}
theorem RgS.call (h : RgS w gk k gr rl A c W) (hb : Below W.heap.size W W') : RgS w gk k gr rl A c W' :=
  ⟨h.below.trans (hb.mono h.below.size), below_blk hb h.kb h.kb.lt, below_blk hb h.rb h.rb.lt, (h.row.below hb).more hb.size, h.hgr⟩
theorem RgS.drew (h : RgS w gk k gr rl A c W) : RgS w gk k gr rl A c W.drew := ⟨h.below.drew, h.kb, h.rb, h.row.drewN 1, h.hgr⟩
theorem RgS.ne (h : RgS w gk k gr rl A c W) : gk ≠ gr := h.kb.ne_ h.rb (by decide)
theorem RgS.turn (h : RgS w gk k gr rl A c W) (r : RowIn encK 32 W W.heap.size A' c' rl') (o : Only [gr] W W') (b : Blk W' gr 27 (encR (A', rl'.length, c')).toArray) : RgS w gk k gr rl' A' c' W' :=
  ⟨h.below.trans (o.below (by have := h.hgr; simp; omega)), o.blk h.kb (by have := h.ne; simp; omega), b, by
    rw [o.size]
    exact arow_only' r o (fun hn g o hA => by have := ring_apart h.rb r hn g o hA; simp; omega), h.hgr⟩
theorem RgS.grow {row : Option Nat} (h : RgS w gk k gr rl A c W) (hg : W.grownBy W' row) (hB : Below (gr + 1) W W') (hk : gk < gr) (hA : ∀ a, A = some a → some a.block ≠ row) : RgS w gk k gr rl A c W' :=
  ⟨h.below.trans (hB.mono (by have := h.hgr; omega)), below_blk hB h.kb (by omega), below_blk hB h.rb (by omega), (arow_grown h.row hg hA (Nat.le_refl _)).more hg.size, h.hgr⟩
end
section
variable {w w' : World} {base : Nat} {e : TypeId} {k n : Nat} {v : Value} {xs : List Value}
theorem aown_keep (h : w.ownsRow base e k v n xs) (hb : ∀ g, v.ownBlock = some g → w'.heap[g]? = w.heap[g]?) : w'.ownsRow base e k v n xs :=
  ⟨h.1, h.2.imp id fun ⟨g, cap, cur, h1, h2, h3, h4⟩ => ⟨g, cap, cur, h1, h2, (hb g (by rw [h1]; rfl)).trans h3, h4⟩⟩
theorem aown_lt (h : w.ownsRow base e k v n xs) : ∀ g, v.ownBlock = some g → g < w.heap.size := by
  intro g hg
  rcases h.2 with ⟨rfl, _⟩ | ⟨g', cap, cur, rfl, hb, hh, _⟩
  · cases hg
  · obtain rfl : g' = g := Option.some.inj hg
    rcases Nat.lt_or_ge g' w.heap.size with hlt | hge
    · exact hlt
    · rw [Array.getElem?_eq_none hge] at hh; cases hh
theorem aown_below (h : w.ownsRow base e k v n xs) (hb : Below w.heap.size w w') : w'.ownsRow base e k v n xs := aown_keep h fun g hg => hb.block g (aown_lt h g hg)
theorem aown_only {L : List Nat} (h : w.ownsRow base e k v n xs) (o : Only L w w') (hL : ∀ g ∈ L, g < base) : w'.ownsRow base e k v n xs :=
  aown_keep h fun g hg => o.block g (fun hm => by have := own_base h g hg; have := hL g hm; omega)
end
theorem aown_one {w : World} {g base : Nat} {x : K32} (hb : Blk w g 24 (cellsOf encK [x]).toArray) (hg : base ≤ g) : w.ownsRow base 24 32 (.slice (some ⟨g, 0, none⟩) 1 1) ([x] : List K32).length (cellsOf encK [x]) := by
  have hl : (cellsOf encK [x]).length = 32 := by rw [cellsOf_len encK_len]; rfl
  refine ⟨by rw [hl]; rfl, .inr ⟨g, 1, _, rfl, hg, hb, Nat.le_refl _, by unfold maxLen; omega, by rw [List.size_toArray, hl], ?_⟩⟩
  show List.take _ (cellsOf encK [x]) = _
  rw [List.take_of_length_le (by rw [hl]; exact Nat.le_refl _)]
theorem RgS.lt {w W : World} {gk gr : Nat} {k : K32} {rl : List K32} {A : Option Addr} {c : Nat} (h : RgS w gk k gr rl A c W) (hn : rl ≠ []) : ∀ a, A = some a → a.block < W.heap.size := by
  intro a ha
  obtain ⟨g, o, e, hg, _⟩ := h.row.cells hn
  rw [ha] at e
  rw [Option.some.inj e]
  exact hg
theorem lastN_ne {n : Nat} {l : List K32} (h : 0 < n) (hl : l ≠ []) : lastN n l ≠ [] := by
  intro e
  have h1 := congrArg List.length e
  rw [lastN_len, List.length_nil] at h1
  have h2 : 0 < l.length := List.length_pos_iff.2 hl
  omega
theorem lastR_last (a : List K32) (h : 0 < a.length) : lastR (lastN 8 a) = a[a.length - 1]'(by omega) := by
  have hne : a ≠ [] := List.length_pos_iff.1 h
  have e : a = a.dropLast ++ [a.getLast hne] := (List.dropLast_concat_getLast hne).symm
  have h1 := lastR_of a.dropLast (a.getLast hne)
  rw [← e] at h1
  rw [h1, List.getLast_eq_getElem]
end Go.Proofs.Ytiifamfophbbcaa
