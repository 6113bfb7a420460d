/- Rows of its own that a function appends to: what holds of them as the world goes on. -/
import Derived.Test.YthpnmmilioonhaaTxU
import Derived.Test.YthpnmmilioonhaaGenA
namespace Go.Proofs.Ythpnmmilioonhaa
open Go.RowKit
theorem xown_from {w W : World} {base : Nat} {e : TypeId} {size n : Nat} {v : Value} {xs : List Value} (h : w.ownsRow base e size v n xs) (hb : Below w.heap.size w W) : W.ownsRow base e size v n xs :=
  ⟨h.1, h.2.imp id fun ⟨g, cap, cur, h1, h2, h3, h4⟩ => ⟨g, cap, cur, h1, h2, (hb.block g (by
    rcases Nat.lt_or_ge g w.heap.size with hlt | hge
    · exact hlt
    · rw [Array.getElem?_eq_none hge] at h3; cases h3)).trans h3, h4⟩⟩
theorem xown_grown {w w' : World} {base : Nat} {e : TypeId} {size n : Nat} {v : Value} {xs : List Value} (h : w.ownsRow base e size v n xs) (hg : w.grownBy w' v.ownBlock) (hB : base ≤ w.heap.size) : Below base w w' := (Below.refl _ _).grown hg hB (own_base h)
theorem xown_nil {w : World} {g : Nat} {base : Nat} {e : TypeId} {k : Nat} (hb : Blk w g e #[]) (hg : base ≤ g) : w.ownsRow base e k (.slice (some ⟨g, 0, none⟩) 0 0) 0 [] :=
  ⟨by simp, .inr ⟨g, 0, #[], rfl, hg, hb, Nat.le_refl _, Nat.zero_le _, by simp, by simp⟩⟩
theorem xown_base {w : World} {b b' : Nat} {e : TypeId} {k n : Nat} {v : Value} {xs : List Value} (h : w.ownsRow b e k v n xs) (hb : b' ≤ b) : w.ownsRow b' e k v n xs :=
  ⟨h.1, h.2.imp id fun ⟨g, cap, cur, h1, h2, h3, h4⟩ => ⟨g, cap, cur, h1, Nat.le_trans hb h2, h3, h4⟩⟩
/-- an own row that holds as a store goes elsewhere -/
theorem xown_only {w w' : World} {g base : Nat} {e t : TypeId} {k n : Nat} {v : Value} {xs : List Value} {cs : Array Value} (h : w.ownsRow base e k v n xs) (ho : Only [g] w w') (hg : Blk w g t cs) (hne : e ≠ t) : w'.ownsRow base e k v n xs :=
  ⟨h.1, h.2.imp id fun ⟨b, cap, cur, h1, h2, h3, h4⟩ => ⟨b, cap, cur, h1, h2, ho.blk h3 (by have := Blk.ne_ (w := w) h3 hg hne; simpa using this), h4⟩⟩
theorem row_own {w : World} {α : Type} {enc : α → List Value} {k b c : Nat} {e : TypeId} {A : Option Addr} {l : List α} (hk : ∀ x, (enc x).length = k) (h : w.ownsRow b e k (.slice A l.length c) l.length (cellsOf enc l)) : RowIn enc k w w.heap.size A c l := by
  obtain ⟨A', c', hv, hr⟩ := RowIn.of_own hk h
  injection hv with h1 h2 h3
  subst h1 h3
  exact hr
theorem zcKy : ((Try.prog.info? 24).bind (·.zero)).map (·.cells.size) = some 32 := by kernel_rfl
theorem zbKy : (Try.prog.info? 24).map (·.bytes) = some 32 := by kernel_rfl
theorem zsKy : ((Try.prog.info? 24).bind (·.zero)).isSome = true := by kernel_rfl
theorem zcPt : ((Try.prog.info? 49).bind (·.zero)).map (·.cells.size) = some 33 := by kernel_rfl
theorem zbPt : (Try.prog.info? 49).map (·.bytes) = some 36 := by kernel_rfl
theorem zsPt : ((Try.prog.info? 49).bind (·.zero)).isSome = true := by kernel_rfl
theorem zcOut : ((Try.prog.info? 92).bind (·.zero)).map (·.cells.size) = some 33 := by kernel_rfl
theorem zbOut : (Try.prog.info? 92).map (·.bytes) = some 40 := by kernel_rfl
theorem zsOut : ((Try.prog.info? 92).bind (·.zero)).isSome = true := by kernel_rfl
end Go.Proofs.Ythpnmmilioonhaa
