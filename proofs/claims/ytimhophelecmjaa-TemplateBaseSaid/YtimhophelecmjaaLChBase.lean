/- CheckBase's walk. Written by genLCb.py. -/
import Derived.Test.YtimhophelecmjaaLChBsA
namespace Go.Proofs.Ytimhophelecmjaa
open Go.RowKit
def bA (z : IntV .u32) (g : Nat) (O : List OutB) (A : Option Addr) (c : Nat) (M : List K32) (An : Option Addr) (cn : Nat) (Z : List K32) (At : Option Addr) (ct : Nat) : TxA := ⟨bT z O M Z, some ⟨g, 0, none⟩, 1, A, c, An, cn, At, ct⟩
def bP (z : IntV .u32) : Array Value := (cellsOf (encKI .u32) [((zeroKey, z) : PtC)]).toArray
theorem bA_in {W : World} {z : IntV .u32} {g : Nat} {O : List OutB} {A : Option Addr} {c : Nat} {M : List K32} {An : Option Addr} {cn : Nat} {Z : List K32} {At : Option Addr} {ct : Nat} (hi : Blk W g 43 (bP z)) (ho : RowIn (encIK .i64) 33 W W.heap.size A c O) (hm : RowIn encK 32 W W.heap.size An cn M) (hz : RowIn encK 32 W W.heap.size At ct Z) : (bA z g O A c M An cn Z At ct).In W W.heap.size :=
  ⟨(rowIn_blk (c := 1) (l := [((zeroKey, z) : PtC)]) hi (by simp) (by decide)).more (Nat.succ_le_of_lt hi.lt), ho, hm, hz⟩
theorem bA_outs (z : IntV .u32) (g : Nat) (O Q : List OutB) (A B : Option Addr) (c d : Nat) : (bA z g O A c [] none 0 [] none 0).cells.toArray.setIfInBounds 2 (.slice B Q.length d) = (bA z g Q B d [] none 0 [] none 0).cells.toArray := tx_set_outs Q B d
theorem bA_nulls (z : IntV .u32) (g : Nat) (O : List OutB) (A : Option Addr) (c : Nat) (k : K32) (B : Option Addr) (d : Nat) : (bA z g O A c [] none 0 [] none 0).cells.toArray.setIfInBounds 35 (.slice B 1 d) = (bA z g O A c [k] B d [] none 0).cells.toArray := tx_set_nulls [k] B d
theorem bA_notes (z : IntV .u32) (g : Nat) (O : List OutB) (A : Option Addr) (c : Nat) (k : K32) (An : Option Addr) (cn : Nat) (B : Option Addr) (d : Nat) : (bA z g O A c [k] An cn [] none 0).cells.toArray.setIfInBounds 36 (.slice B 1 d) = (bA z g O A c [k] An cn [k] B d).cells.toArray := tx_set_notes [k] B d
theorem built_bP (t : TypeId) (ht : t = 43) (z : IntV .u32) : Try.prog.built t [(1, .int .u32 z.1)] = some (encKI .u32 (zeroKey, z)).toArray := by
  subst ht
  obtain ⟨z, hz⟩ := z
  kernel_rfl
theorem bzsK : ((Try.prog.info? 24).bind (·.zero)).isSome = true := by kernel_rfl
theorem bzsO : ((Try.prog.info? 37).bind (·.zero)).isSome = true := by kernel_rfl
theorem bown_grown {w w' : World} {base : Nat} {e : TypeId} {size n : Nat} {v : Value} {xs : List Value} (h : w.ownsRow base e size v n xs) (hg : w.grownBy w' v.ownBlock) (hB : base ≤ w.heap.size) : Below base w w' := (Below.refl _ _).grown hg hB (own_base h)
theorem bown_keep {w w' : World} {base : Nat} {e : TypeId} {size n : Nat} {v : Value} {xs : List Value} {L : List Nat} (h : w.ownsRow base e size v n xs) (o : Only L w w') (hL : ∀ g ∈ L, g < base) : w'.ownsRow base e size v n xs :=
  ⟨h.1, h.2.imp id fun ⟨g, cap, cur, h1, h2, h3, h4⟩ => ⟨g, cap, cur, h1, h2, (o.block g (fun hm => by have := hL g hm; omega)).trans h3, h4⟩⟩
theorem bown_call {w w' : World} {base : Nat} {e : TypeId} {size n : Nat} {v : Value} {xs : List Value} (h : w.ownsRow base e size v n xs) (hb : Below w.heap.size w w') : w'.ownsRow base e size v n xs :=
  ⟨h.1, h.2.imp id fun ⟨g, cap, cur, h1, h2, h3, h4⟩ => ⟨g, cap, cur, h1, h2, below_blk hb h3 (Blk.lt h3), h4⟩⟩
theorem bown_row {W : World} {base : Nat} {A : Option Addr} {c : Nat} {O : List OutB} (h : W.ownsRow base 37 33 (.slice A O.length c) O.length (cellsOf (encIK .i64) O)) : RowIn (encIK .i64) 33 W W.heap.size A c O := by
  obtain ⟨A', c', e, r⟩ := RowIn.of_own (encIK_len _) h
  cases e
  exact r
structure BsS (w : World) (k : K32) (g o : Nat) (x : IntV .u32) (V : World) : Prop where
  x : RowC V g o (enc1 .u32 x)
  k : RowC V w.heap.size 0 (encK k)
end Go.Proofs.Ytimhophelecmjaa
