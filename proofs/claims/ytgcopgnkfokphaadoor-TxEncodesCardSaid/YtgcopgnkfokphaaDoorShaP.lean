/- Plain: arrays of words as the model keeps them; one round of the hash; no program is named here. -/
import Derived.Test.YtgcopgnkfokphaaDoorU32
namespace Go.Proofs.YtgcopgnkfokphaaDoor
open Go.RowKit
def uarr (n : Nat) (f : Nat → BitVec 32) : Array Value := ((List.range n).map fun j => Value.int .u32 (wv (f j))).toArray
def upd {α : Type} (f : Nat → α) (k : Nat) (x : α) : Nat → α := fun j => if j = k then x else f j
theorem uarr_get (n : Nat) (f : Nat → BitVec 32) (i : Nat) (h : i < n) : (uarr n f)[i]? = some (.int .u32 (wv (f i))) := by
  simp [uarr, h]
theorem uarr_size (n : Nat) (f : Nat → BitVec 32) : (uarr n f).size = n := by simp [uarr]
theorem uarr_one (n : Nat) (f : Nat → BitVec 32) : (uarr n f).all (·.oneCell') = true := by
  rw [Array.all_eq_true_iff_forall_mem]; intro x hx; simp only [uarr, List.mem_toArray, List.mem_map] at hx; obtain ⟨_, _, rfl⟩ := hx; rfl
theorem uarr_congr (n : Nat) (f g : Nat → BitVec 32) (h : ∀ i, i < n → f i = g i) : uarr n f = uarr n g := by
  unfold uarr; congr 1; apply List.map_congr_left; intro a ha; rw [h a (by simpa using ha)]
theorem uarr_set (n : Nat) (f : Nat → BitVec 32) (k : Nat) (x : BitVec 32) : (uarr n f).setIfInBounds k (.int .u32 (wv x)) = uarr n (upd f k x) := by
  apply Array.ext_getElem?
  intro i
  rw [Array.getElem?_setIfInBounds]
  by_cases hk : k = i
  · subst hk
    by_cases hl : k < n
    · rw [if_pos rfl, if_pos (by rw [uarr_size]; exact hl), uarr_get _ _ _ hl]; simp [upd]
    · simp [uarr, hl]
  · by_cases hl : i < n
    · rw [if_neg hk, uarr_get _ _ _ hl, uarr_get _ _ _ hl]; simp [upd, Ne.symm hk]
    · simp [uarr, hl, hk]
theorem u32_zero : wv 0 = 0 := rfl
def T1 (e f g h kc x : BitVec 32) : BitVec 32 := h + (ror e 6 ^^^ ror e 11 ^^^ ror e 25) + (e &&& f ^^^ ~~~e &&& g) + kc + x
def T2 (a b c : BitVec 32) : BitVec 32 := (ror a 2 ^^^ ror a 13 ^^^ ror a 22) + (a &&& b ^^^ a &&& c ^^^ b &&& c)
theorem T1_eq (e f g h kc x : BitVec 32) : h + (ror e 6 ^^^ ror e 11 ^^^ ror e 25) + (e &&& f ^^^ ~~~e &&& g) + kc + x = T1 e f g h kc x := rfl
theorem T2_eq (a b c : BitVec 32) : (ror a 2 ^^^ ror a 13 ^^^ ror a 22) + (a &&& b ^^^ a &&& c ^^^ b &&& c) = T2 a b c := rfl
def sg0 (x : BitVec 32) : BitVec 32 := ror x 7 ^^^ ror x 18 ^^^ x >>> 3
def sg1 (x : BitVec 32) : BitVec 32 := ror x 17 ^^^ ror x 19 ^^^ x >>> 10
/-- the i-th word of the schedule, from a ring of the sixteen before it -/
def sched (f : Nat → BitVec 32) (i : Nat) : BitVec 32 :=
  f (i % 16) + ((ror (f ((i - 15) % 16)) 7 ^^^ ror (f ((i - 15) % 16)) 18 ^^^ f ((i - 15) % 16) >>> 3) + f ((i - 7) % 16) + (ror (f ((i - 2) % 16)) 17 ^^^ ror (f ((i - 2) % 16)) 19 ^^^ f ((i - 2) % 16) >>> 10))
def ring (f : Nat → BitVec 32) (i : Nat) : Nat → BitVec 32 := if 16 ≤ i then upd f (i % 16) (sched f i) else f
/-- the state of a block's rounds: the ring of words, and the eight numbers -/
structure St where
  w : Nat → BitVec 32
  a : BitVec 32
  b : BitVec 32
  c : BitVec 32
  d : BitVec 32
  e : BitVec 32
  f : BitVec 32
  g : BitVec 32
  h : BitVec 32
def St.step (K : Nat → BitVec 32) (s : St) (i : Nat) : St :=
  { w := ring s.w i, a := T1 s.e s.f s.g s.h (K i) (ring s.w i (i % 16)) + T2 s.a s.b s.c, b := s.a, c := s.b, d := s.c,
    e := s.d + T1 s.e s.f s.g s.h (K i) (ring s.w i (i % 16)), f := s.e, g := s.f, h := s.g }
def St.run (K : Nat → BitVec 32) (s : St) : Nat → St
  | 0 => s
  | n + 1 => (St.run K s n).step K n
def St.ofHash (w h : Nat → BitVec 32) : St := { w := w, a := h 0, b := h 1, c := h 2, d := h 3, e := h 4, f := h 5, g := h 6, h := h 7 }
def St.out (s : St) (j : Nat) : BitVec 32 := match j with | 0 => s.a | 1 => s.b | 2 => s.c | 3 => s.d | 4 => s.e | 5 => s.f | 6 => s.g | 7 => s.h | _ => 0
/-- the hash h with a block's words w put to it -/
def compressF (K w h : Nat → BitVec 32) : Nat → BitVec 32 := fun j => h j + ((St.ofHash w h).run K 64).out j
end Go.Proofs.YtgcopgnkfokphaaDoor
